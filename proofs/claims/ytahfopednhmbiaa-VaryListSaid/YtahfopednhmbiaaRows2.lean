/-
  Layer 2: the law VaryRows, its walk. Conditions: those written at each fact.
-/
import Derived.Test.YtahfopednhmbiaaRefX
import Derived.Test.YtahfopednhmbiaaPuts
namespace Go.Proofs.Ytahfopednhmbiaa
open Go.RowKit Go.Shelf

theorem rowOf_len : ∀ (n : Nat) (l : List Int) (a : Nat), a ≤ l.length → (rowOf n l a).1.length ≤ l.length - a
  | 0, l, a, _ => by simp [rowOf]
  | n + 1, l, a, ha => by
    rw [rowOf]
    by_cases ge : gotE l a = 0
    · obtain ⟨p, e, h1, h2⟩ := got_place ha ge
      rw [if_pos ge, e]
      have := rowOf_len n l p h2
      split
      · simp only [List.length_cons]; omega
      · simp
    · rw [if_neg ge]; simp
theorem gotRow_len {l : List Int} {a most : Int} : (gotRow l a most).1.length ≤ l.length := by
  unfold gotRow
  split
  · simp
  · split
    · simp
    · rename_i _ ge
      split
      · simp
      · have ge' : gotE l a = 0 := by simpa using ge
        by_cases hx : a < 0 ∨ (l.length : Int) < a
        · have := (got_bad hx).2.2; rw [this] at ge'; cases ge'
        · obtain ⟨a', rfl⟩ : ∃ a' : Nat, a = a' := ⟨a.toNat, by omega⟩
          obtain ⟨p, e, h1, h2⟩ := got_place (by omega) ge'
          rw [e]
          have := rowOf_len (gotN l a').toNat l p h2
          omega
theorem rowBytes_len {ms : List Int} (hm : ms.length ≤ 60) (hr : ∀ z ∈ ms, -9223372036854775808 ≤ z ∧ z ≤ 9223372036854775807) : 1 ≤ (rowBytes ms).length ∧ (rowBytes ms).length ≤ 610 := by
  have h1 := digs_ten (u := ms.length) (by omega)
  have h2 := bytesOf_len (f := Lib.zigzag) (ms := ms) (fun z hz => Lib.zigzag_lt (hr z hz).1 (hr z hz).2)
  unfold rowBytes
  rw [List.length_append]
  omega
theorem rowBytes_b {ms : List Int} (hm : ms.length ≤ 1000) (hr : ∀ z ∈ ms, -9223372036854775808 ≤ z ∧ z ≤ 9223372036854775807) : ∀ z ∈ rowBytes ms, 0 ≤ z ∧ z < 256 := by
  intro z hz
  unfold rowBytes bytesOf at hz
  rcases List.mem_append.1 hz with hz | hz
  · exact digs_b (by omega) z hz
  · obtain ⟨y, hy, hz⟩ := List.mem_flatMap.1 hz
    exact digs_b (Lib.zigzag_lt (hr y hy).1 (hr y hy).2) z hz

set_option maxRecDepth 100000 in
set_option maxHeartbeats 8000000 in
theorem rows_small (x : List Int) (hx : x.length ≤ 60) (hxr : ∀ z ∈ x, -9223372036854775808 ≤ z ∧ z ≤ 9223372036854775807) (b : List Int) (hbl : b.length ≤ 9223372036854775807) (hbb : ∀ z ∈ b, 0 ≤ z ∧ z < 256) (a : Int) (v0 v : Value) (w : World) (h0 : Reads .i64 w v0 x) (h : Reads .u8 w v b) :
    Calls Try.prog 5 #[v0, v, .int .i64 a] w (Ret w (.bool true)) := by
  obtain ⟨i0, hi, hz0, hz1, hz2⟩ := info_parts infoU8
  have HH := Lib.hid (fun W (hb : Below w.heap.size w W) => head_any b hbl v W (h.below hb))
  have HKP := Lib.hid (fun W (hb : Below w.heap.size w W) g cap hg hc hl => kept_any b hbl v W (h.below hb) g cap hg hc hl)
  have hl4 : (b.take 400).length ≤ 400 := by simp; omega
  have hlb : ∀ z ∈ b.take 400, 0 ≤ z ∧ z < 256 := fun z hz => hbb z (List.mem_of_mem_take hz)
  generalize b.take 400 = l at *
  obtain ⟨A0, c0, rfl, hc0, hk0⟩ := h0
  have hm1 : (x.take 60).length ≤ 60 := by simp; omega
  have hml : (x.take 60).length = x.length := by simp; omega
  have hmr : ∀ z ∈ x.take 60, -9223372036854775808 ≤ z ∧ z ≤ 9223372036854775807 := fun z hz => hxr z (List.mem_of_mem_take hz)
  have RX : Hid (Reads .i64 w (.slice A0 x.length c0) (x.take 60)) := Lib.hid (by
    have := reads_take (A := A0) (c := c0) ⟨A0, c0, rfl, hc0, hk0⟩ (x.take 60).length (by simp; omega)
    rw [hml] at this
    have e : x.take x.length = x.take 60 := by rw [List.take_of_length_le (Nat.le_refl _), List.take_of_length_le hx]
    rwa [e] at this)
  have CX := Lib.hid (fun W (hb : Below w.heap.size w W) => cloneI (x.take 60) (by omega) _ W (RX.out.below hb))
  have EI := Lib.hid (fun v1 v2 W (h1 : Reads .i64 W v1 (x.take 60)) (h2 : Reads .i64 W v2 (x.take 60)) => equalI (x.take 60) (x.take 60) (by omega) v1 v2 W h1 h2)
  rw [eqB_true rfl] at EI
  have PR0 := Lib.hid (fun v1 v2 W (h1 : Reads .u8 W v1 l) (h2 : Reads .i64 W v2 (x.take 60)) => putRow_any l (by omega) (x.take 60) (by omega) hmr v1 v2 W h1 h2)
  have RB := Lib.hid (fun v2 W (h2 : Reads .i64 W v2 (x.take 60)) => rowBytesR (x.take 60) (by omega) hmr v2 W h2)
  have CL := Lib.hid (fun v W (hr : Reads .u8 W v l) => cloneB l (by omega) v W hr)
  have hD := rowBytes_len hm1 hmr
  have hDb := rowBytes_b (by omega) hmr
  have PR : Hid (∀ z ∈ l ++ rowBytes (x.take 60), 0 ≤ z ∧ z < 256) := Lib.hid (fun z hz' => by
    rcases List.mem_append.1 hz' with hz' | hz'
    · exact hlb z hz'
    · exact hDb z hz')
  generalize rowBytes (x.take 60) = D at *
  obtain ⟨k1, hk1⟩ : ∃ k, D.length = k := ⟨_, rfl⟩
  rw [hk1] at hD
  have HD1 := Lib.hid hk1
  have PL : Hid ((l ++ D).length = l.length + k1) := Lib.hid (by simp [hk1])
  have EQ1 := Lib.hid (fun v v2 W (h1 : Reads .u8 W v (l ++ D)) (h2 : Reads .u8 W v2 (l ++ D)) => equalB (l ++ D) (l ++ D) (by simp; omega) v v2 W h1 h2)
  rw [eqB_true rfl] at EQ1
  have GR := Lib.hid (fun most (hm : most ≤ 9223372036854775807) v W (hr : Reads .u8 W v l) => getRow_any l (by omega) hlb a most hm v W hr)
  have RR := Lib.hid (fun most (hm : most ≤ 9223372036854775807) v W (hr : Reads .u8 W v l) => refRow_any l (by omega) hlb a most hm v W hr)
  have GL := Lib.hid (fun most => gotRow_len (l := l) (a := a) (most := most))
  have HML := Lib.hid hml
  generalize x.take 60 = ms at *
  clear h hbb hbl hlb hk1 hxr hk0 hmr hDb
  go_enter Try.func5, Try.ntmps5
  go_wp2_with fail
  refine (wakes_any _).mono ?_
  rintro e w1 ⟨rfl, hb1⟩
  have B1 := Lib.hid hb1
  clear hb1
  go_wp2_with fail
  refine (CX.out _ B1.out).mono ?_
  rintro e w2 ⟨v2, rfl, hb2, ho2⟩
  obtain ⟨A2, c2, rfl⟩ := made_len ho2
  have B2 := Lib.hid (under B1.out hb2)
  have M2 := Lib.hid (reads_own ho2)
  rw [HML.out]
  rw [HML.out] at M2
  clear hb2 ho2 B1
  go_wp2_with fail
  refine (HH.out _ B2.out).mono ?_
  intro e w3 hhead
  obtain ⟨g, cap, rfl, hb3, hg, hcap, hlie, _⟩ := head_parts hhead
  have B3 := Lib.hid (under B2.out hb3)
  have LI3 := Lib.hid hlie
  have M3 := Lib.hid (M2.out.below hb3)
  clear hb3 hhead hlie B2 M2
  go_wp2_with fail
  refine (PR0.out _ _ _ (reads_lie LI3.out.left hg (by omega)) M3.out).mono ?_
  rintro e w4 ⟨v4, rfl, hb4, ho4⟩
  obtain ⟨gu, cu, rfl, hcu, hgu, liu, hgu2, fru⟩ := owns_parts ho4 PL.out (by omega)
  have B4 := Lib.hid (under B3.out hb4)
  have LI4 := Lib.hid (LI3.out.below hg hb4)
  have M4 := Lib.hid (M3.out.below hb4)
  have U4 := Lib.hid liu
  have UF4 := Lib.hid fru
  have i4 : g < w4.heap.size := Nat.lt_of_lt_of_le hg hb4.size
  have hggu : g < gu := by omega
  have hwgu : w.heap.size ≤ gu := Nat.le_trans B3.out.size hgu2
  clear hb4 B3 LI3 M3 ho4 liu fru hgu2 hg
  go_wp2_with fail
  refine (CL.out _ _ (reads_lie LI4.out.left i4 (by omega))).mono ?_
  rintro e w5 ⟨v5, rfl, hb5, ho5⟩
  have HB5 := Lib.hid hb5
  have HO5 := Lib.hid ho5
  have M5 := Lib.hid (M4.out.below hb5)
  clear hb5 ho5
  go_wp2_with fail
  refine (RB.out _ _ M5.out).mono ?_
  rintro e w6 ⟨v6, rfl, hb6, ho6⟩
  obtain ⟨gw, cw, rfl, hcw, hgw, liw, _, _⟩ := owns_parts ho6 HD1.out (by omega)
  have HO6 := Lib.hid (owns_below HO5.out hb6)
  have HB6 := Lib.hid (under HB5.out hb6)
  have W6 := Lib.hid liw
  clear hb6 ho6 liw HO5 HB5 M5
  go_wp2_with (at_builtin; refine wpList_append_own _ rfl _ _ 22 rfl w4.heap.size 5 i0 (.int .u8 0) 1 1 Try.underlying22 hi hz0 hz1 hz2 rfl (by decide) _ _ _ rfl HO6.out ⟨gw, 0, none⟩ k1 cw (D.map (Value.int .u8)) rfl ?qa ?qb ?qc ?qd ?qe ?qf ?_)
  case qa => simp [HD1.out]
  case qb => exact fun j u hj => reads_add (reads_lie (c := cw) W6.out hgw (by rw [HD1.out]; omega)) hj
  case qc => intro u hu; obtain ⟨x, _, rfl⟩ := List.mem_map.1 hu; rfl
  case qd => unfold maxLen; omega
  case qe => omega
  case qf => exact HB6.out.size
  intro v7 w7 hown7 hgrow7 _
  have hb7 : Below w4.heap.size w4 w7 := HB6.out.grown hgrow7 HB6.out.size (fun j hj => (HO6.out.lt j hj).1)
  have RA7 : Hid (Reads .u8 w7 v7 (l ++ D)) := Lib.hid (reads_own (B := w4.heap.size) (t := 5) (by rw [PL.out, List.map_append]; exact hown7))
  have B7 := Lib.hid (under B4.out hb7)
  have LI7 := Lib.hid (LI4.out.below i4 hb7)
  have M7 := Lib.hid (M4.out.below hb7)
  have U7 := Lib.hid (U4.out.below hgu hb7)
  have UF7 := Lib.hid (fun i => (hb7.frozen (p := ⟨gu, i, none⟩) hgu).trans (UF4.out i))
  have i7 : g < w7.heap.size ∧ gu < w7.heap.size := ⟨Nat.lt_of_lt_of_le i4 hb7.size, Nat.lt_of_lt_of_le hgu hb7.size⟩
  clear hown7 hgrow7 HB6 HO6 W6 hgw hb7 B4 LI4 M4 U4 UF4 i4 hgu
  go_wp2_with fail
  refine (EQ1.out _ _ _ (by rw [← PL.out]; exact reads_lie U7.out i7.2 (by rw [PL.out]; omega)) RA7.out).mono ?_
  rintro e w8 ⟨rfl, hb8⟩
  have B8 := Lib.hid (under B7.out hb8)
  have LI8 := Lib.hid (LI7.out.below i7.1 hb8)
  have M8 := Lib.hid (M7.out.below hb8)
  have U8 := Lib.hid (U7.out.below i7.2 hb8)
  have UF8 := Lib.hid (fun i => (hb8.frozen (p := ⟨gu, i, none⟩) i7.2).trans (UF7.out i))
  have i8 : g < w8.heap.size ∧ gu < w8.heap.size := ⟨Nat.lt_of_lt_of_le i7.1 hb8.size, Nat.lt_of_lt_of_le i7.2 hb8.size⟩
  clear hb8 RA7 B7 LI7 M7 U7 UF7 i7
  go_wp2_with fail
  refine (EI.out _ _ _ M8.out (RX.out.below B8.out)).mono ?_
  rintro e w9 ⟨rfl, hb9⟩
  have B9 := Lib.hid (under B8.out hb9)
  have LI9 := Lib.hid (LI8.out.below i8.1 hb9)
  have U9 := Lib.hid (U8.out.below i8.2 hb9)
  have UF9 := Lib.hid (fun i => (hb9.frozen (p := ⟨gu, i, none⟩) i8.2).trans (UF8.out i))
  have i9 : g < w9.heap.size ∧ gu < w9.heap.size := ⟨Nat.lt_of_lt_of_le i8.1 hb9.size, Nat.lt_of_lt_of_le i8.2 hb9.size⟩
  clear hb9 B8 LI8 M8 U8 UF8 i8
  go_wp2_with fail
  obtain ⟨W10, hW10⟩ : ∃ W, W = w9.alloc (.cells #[.int .i64 (-1), .int .i64 0, .int .i64 ((x.length : Int) - 1), .int .i64 x.length, .int .i64 400] 3) := ⟨_, rfl⟩
  rw [← hW10]
  have hbA : Below w9.heap.size w9 W10 := by rw [hW10]; exact below_alloc w9 _
  have hlt10 : w9.heap.size < W10.heap.size := by rw [hW10]; simp
  have HM : Hid (∀ k, k < 5 → ∃ mk : Int, W10.cell? ⟨w9.heap.size, k, none⟩ = some (.int .i64 mk) ∧ mk ≤ 1000) := Lib.hid (fun k hk => by
    rw [hW10]
    match k, hk with
    | 0, _ => exact ⟨-1, by simp [go_sem], by omega⟩
    | 1, _ => exact ⟨0, by simp [go_sem], by omega⟩
    | 2, _ => exact ⟨(x.length : Int) - 1, by simp [go_sem], by omega⟩
    | 3, _ => exact ⟨(x.length : Int), by simp [go_sem], by omega⟩
    | 4, _ => exact ⟨400, by simp [go_sem], by omega⟩)
  have B10 := Lib.hid (under B9.out hbA)
  have LI10 := Lib.hid (LI9.out.below i9.1 hbA)
  have U10 := Lib.hid (U9.out.below i9.2 hbA)
  have UF10 := Lib.hid (fun i => (hbA.frozen (p := ⟨gu, i, none⟩) i9.2).trans (UF9.out i))
  have i10 : g < W10.heap.size ∧ gu < W10.heap.size := ⟨Nat.lt_of_lt_of_le i9.1 hbA.size, Nat.lt_of_lt_of_le i9.2 hbA.size⟩
  clear hbA B9 LI9 U9 UF9 i9 hW10
  go_loopw [56] (fun i wr => ∃ k : Nat, i = .int .i64 k ∧ k ≤ 5 ∧ Below W10.heap.size W10 wr) (fun i _ => 5 - (intOf i).toNat)
  case atStart => exact ⟨0, rfl, by omega, Below.refl _ _⟩
  case round =>
    obtain ⟨k, rfl, hk, hBr⟩ := hrel
    by_cases gk : k < 5
    · obtain ⟨mk, hc, hmk⟩ := HM.out k gk
      have hcell := (hBr.cell (p := ⟨w9.heap.size, k, none⟩) hlt10).trans hc
      have HBr := Lib.hid hBr
      have G1 := Lib.hid (GR.out mk (by omega) _ wr (reads_lie (c := cap) (LI10.out.below i10.1 hBr).left (Nat.lt_of_lt_of_le i10.1 hBr.size) (by omega)))
      have G2 := Lib.hid (fun W (hb : Below W10.heap.size W10 W) => RR.out mk (by omega) _ W (reads_lie (c := cap) (LI10.out.below i10.1 hb).left (Nat.lt_of_lt_of_le i10.1 hb.size) (by omega)))
      have hgl := GL.out mk
      generalize gotRow l a mk = r at *
      obtain ⟨r1, r2, r3⟩ := r
      simp only at hgl
      clear hBr hc
      go_wp2_with fail
      refine G1.out.mono ?_
      rintro e w11 ⟨v11, rfl, hb11, ho11⟩
      have hB11 := under HBr.out hb11
      have R11 := Lib.hid (reads_own (l := r1) ho11)
      have G3 := Lib.hid (G2.out _ hB11)
      have HB11 := Lib.hid hB11
      clear hb11 ho11 G1 G2 HBr hB11 hcell
      go_wp2_with fail
      refine G3.out.mono ?_
      rintro e w12 ⟨v12, rfl, hb12, ho12⟩
      have R12 := Lib.hid (R11.out.below hb12)
      have S12 := Lib.hid (reads_own (l := r1) ho12)
      have HB12 := Lib.hid (under HB11.out hb12)
      clear hb12 ho12 G3 HB11 R11
      go_wp2_with fail
      refine (equalI r1 r1 (by omega) _ _ _ R12.out S12.out).mono ?_
      rintro e w13 ⟨rfl, hb13⟩
      rw [eqB_true rfl]
      have hB13 := under HB12.out hb13
      clear hb13 R12 S12 HB12
      go_wp2_with fail
      go_roundw
      case rel => exact ⟨k + 1, by simp, by omega, hB13⟩
      case measure => simp [intOf]; omega
    · have B13 := Lib.hid (under B10.out hBr)
      have LI13 := Lib.hid (LI10.out.below i10.1 hBr)
      have U13 := Lib.hid (U10.out.below i10.2 hBr)
      have UF13 := Lib.hid (fun i => (hBr.frozen (p := ⟨gu, i, none⟩) i10.2).trans (UF10.out i))
      have i13 : g < wr.heap.size ∧ gu < wr.heap.size := ⟨Nat.lt_of_lt_of_le i10.1 hBr.size, Nat.lt_of_lt_of_le i10.2 hBr.size⟩
      clear B10 LI10 U10 UF10 i10 hBr
      obtain ⟨wm, hwm⟩ : ∃ x, x = wr := ⟨_, rfl⟩
      subst hwm
      go_wp2_with fail
      go_loopw [93] (fun i wr => ∃ k : Nat, i = .int .i64 k ∧ k ≤ (l.length + k1) ∧ Hid (Near gu wm wr ∧ (∀ i z, k ≤ i → (l ++ D)[i]? = some z → wr.cell? ⟨gu, i, none⟩ = some (.int .u8 z)) ∧ ∀ i, wr.frozen? ⟨gu, i, none⟩ = false)) (fun i _ => (l.length + k1) - (intOf i).toNat)
      case atStart => exact ⟨0, rfl, by omega, Lib.hid ⟨Near.refl _ _, fun i z _ hz => by have := U13.out i z hz; rwa [Nat.zero_add] at this, UF13.out⟩⟩
      case round =>
        obtain ⟨k, rfl, hk, hN⟩ := hrel
        by_cases gk : k < (l.length + k1)
        · obtain ⟨z, hz⟩ : ∃ z, (l ++ D)[k]? = some z := ⟨_, List.getElem?_eq_getElem (by have := PL.out; omega)⟩
          have hc := hN.out.2.1 k z (Nat.le_refl _) hz
          have hf := hN.out.2.2 k
          have hzr := PR.out z (List.mem_of_getElem? hz)
          clear hz
          go_wp2_with fail
          go_roundw
          case rel => exact ⟨k + 1, by simp, by omega, Lib.hid ⟨hN.out.1.set (.inl rfl) _, fun i z' hi hz' => (World.cell?_setCell_other _ _ _ _ (fun e => by injection e with _ e2 _; omega)).trans (hN.out.2.1 i z' (by omega) hz'), fun i => by rw [World.frozen?_setCell]; exact hN.out.2.2 i⟩⟩
          case measure => simp [intOf]; omega
        · have hNr := hN.out.1
          clear hN
          have B14 := Lib.hid (hNr.below B13.out hwgu)
          have LI14 := Lib.hid (LI13.out.near hNr i13.1 (by omega))
          have i14 : g < wr.heap.size := Nat.lt_of_lt_of_le i13.1 hNr.size
          clear B13 LI13 U13 UF13 i13 hNr
          go_wp2_with fail
          refine (HKP.out _ B14.out g cap i14 hcap LI14.out).mono ?_
          rintro e w15 ⟨rfl, hb15⟩
          have B15 := Lib.hid (under B14.out hb15)
          clear hb15 B14 LI14
          go_wp2_with fail
          go_ret
          exact ⟨rfl, B15.out⟩

set_option maxRecDepth 100000 in
set_option maxHeartbeats 8000000 in
theorem rows_big (x : List Int) (hx : 60 < x.length ∧ x.length ≤ 9223372036854775807) (hxr : ∀ z ∈ x, -9223372036854775808 ≤ z ∧ z ≤ 9223372036854775807) (b : List Int) (hbl : b.length ≤ 9223372036854775807) (hbb : ∀ z ∈ b, 0 ≤ z ∧ z < 256) (a : Int) (v0 v : Value) (w : World) (h0 : Reads .i64 w v0 x) (h : Reads .u8 w v b) :
    Calls Try.prog 5 #[v0, v, .int .i64 a] w (Ret w (.bool true)) := by
  obtain ⟨i0, hi, hz0, hz1, hz2⟩ := info_parts infoU8
  have HH := Lib.hid (fun W (hb : Below w.heap.size w W) => head_any b hbl v W (h.below hb))
  have HKP := Lib.hid (fun W (hb : Below w.heap.size w W) g cap hg hc hl => kept_any b hbl v W (h.below hb) g cap hg hc hl)
  have hl4 : (b.take 400).length ≤ 400 := by simp; omega
  have hlb : ∀ z ∈ b.take 400, 0 ≤ z ∧ z < 256 := fun z hz => hbb z (List.mem_of_mem_take hz)
  generalize b.take 400 = l at *
  obtain ⟨A0, c0, rfl, hc0, hk0⟩ := h0
  have hm1 : (x.take 60).length ≤ 60 := by simp; omega
  have hml : (x.take 60).length = 60 := by simp; omega
  have hmr : ∀ z ∈ x.take 60, -9223372036854775808 ≤ z ∧ z ≤ 9223372036854775807 := fun z hz => hxr z (List.mem_of_mem_take hz)
  have RX : Hid (Reads .i64 w (.slice A0 60 c0) (x.take 60)) := Lib.hid (by
    have := reads_take (A := A0) (c := c0) ⟨A0, c0, rfl, hc0, hk0⟩ (x.take 60).length (by simp; omega)
    rw [hml] at this
    have e : x.take 60 = x.take 60 := by rfl
    rwa [e] at this)
  have CX := Lib.hid (fun W (hb : Below w.heap.size w W) => cloneI (x.take 60) (by omega) _ W (RX.out.below hb))
  have EI := Lib.hid (fun v1 v2 W (h1 : Reads .i64 W v1 (x.take 60)) (h2 : Reads .i64 W v2 (x.take 60)) => equalI (x.take 60) (x.take 60) (by omega) v1 v2 W h1 h2)
  rw [eqB_true rfl] at EI
  have PR0 := Lib.hid (fun v1 v2 W (h1 : Reads .u8 W v1 l) (h2 : Reads .i64 W v2 (x.take 60)) => putRow_any l (by omega) (x.take 60) (by omega) hmr v1 v2 W h1 h2)
  have RB := Lib.hid (fun v2 W (h2 : Reads .i64 W v2 (x.take 60)) => rowBytesR (x.take 60) (by omega) hmr v2 W h2)
  have CL := Lib.hid (fun v W (hr : Reads .u8 W v l) => cloneB l (by omega) v W hr)
  have hD := rowBytes_len hm1 hmr
  have hDb := rowBytes_b (by omega) hmr
  have PR : Hid (∀ z ∈ l ++ rowBytes (x.take 60), 0 ≤ z ∧ z < 256) := Lib.hid (fun z hz' => by
    rcases List.mem_append.1 hz' with hz' | hz'
    · exact hlb z hz'
    · exact hDb z hz')
  generalize rowBytes (x.take 60) = D at *
  obtain ⟨k1, hk1⟩ : ∃ k, D.length = k := ⟨_, rfl⟩
  rw [hk1] at hD
  have HD1 := Lib.hid hk1
  have PL : Hid ((l ++ D).length = l.length + k1) := Lib.hid (by simp [hk1])
  have EQ1 := Lib.hid (fun v v2 W (h1 : Reads .u8 W v (l ++ D)) (h2 : Reads .u8 W v2 (l ++ D)) => equalB (l ++ D) (l ++ D) (by simp; omega) v v2 W h1 h2)
  rw [eqB_true rfl] at EQ1
  have GR := Lib.hid (fun most (hm : most ≤ 9223372036854775807) v W (hr : Reads .u8 W v l) => getRow_any l (by omega) hlb a most hm v W hr)
  have RR := Lib.hid (fun most (hm : most ≤ 9223372036854775807) v W (hr : Reads .u8 W v l) => refRow_any l (by omega) hlb a most hm v W hr)
  have GL := Lib.hid (fun most => gotRow_len (l := l) (a := a) (most := most))
  have HML := Lib.hid hml
  generalize x.take 60 = ms at *
  clear h hbb hbl hlb hk1 hxr hk0 hmr hDb
  go_enter Try.func5, Try.ntmps5
  go_wp2_with fail
  refine (wakes_any _).mono ?_
  rintro e w1 ⟨rfl, hb1⟩
  have B1 := Lib.hid hb1
  clear hb1
  go_wp2_with fail
  refine (CX.out _ B1.out).mono ?_
  rintro e w2 ⟨v2, rfl, hb2, ho2⟩
  obtain ⟨A2, c2, rfl⟩ := made_len ho2
  have B2 := Lib.hid (under B1.out hb2)
  have M2 := Lib.hid (reads_own ho2)
  rw [HML.out]
  rw [HML.out] at M2
  clear hb2 ho2 B1
  go_wp2_with fail
  refine (HH.out _ B2.out).mono ?_
  intro e w3 hhead
  obtain ⟨g, cap, rfl, hb3, hg, hcap, hlie, _⟩ := head_parts hhead
  have B3 := Lib.hid (under B2.out hb3)
  have LI3 := Lib.hid hlie
  have M3 := Lib.hid (M2.out.below hb3)
  clear hb3 hhead hlie B2 M2
  go_wp2_with fail
  refine (PR0.out _ _ _ (reads_lie LI3.out.left hg (by omega)) M3.out).mono ?_
  rintro e w4 ⟨v4, rfl, hb4, ho4⟩
  obtain ⟨gu, cu, rfl, hcu, hgu, liu, hgu2, fru⟩ := owns_parts ho4 PL.out (by omega)
  have B4 := Lib.hid (under B3.out hb4)
  have LI4 := Lib.hid (LI3.out.below hg hb4)
  have M4 := Lib.hid (M3.out.below hb4)
  have U4 := Lib.hid liu
  have UF4 := Lib.hid fru
  have i4 : g < w4.heap.size := Nat.lt_of_lt_of_le hg hb4.size
  have hggu : g < gu := by omega
  have hwgu : w.heap.size ≤ gu := Nat.le_trans B3.out.size hgu2
  clear hb4 B3 LI3 M3 ho4 liu fru hgu2 hg
  go_wp2_with fail
  refine (CL.out _ _ (reads_lie LI4.out.left i4 (by omega))).mono ?_
  rintro e w5 ⟨v5, rfl, hb5, ho5⟩
  have HB5 := Lib.hid hb5
  have HO5 := Lib.hid ho5
  have M5 := Lib.hid (M4.out.below hb5)
  clear hb5 ho5
  go_wp2_with fail
  refine (RB.out _ _ M5.out).mono ?_
  rintro e w6 ⟨v6, rfl, hb6, ho6⟩
  obtain ⟨gw, cw, rfl, hcw, hgw, liw, _, _⟩ := owns_parts ho6 HD1.out (by omega)
  have HO6 := Lib.hid (owns_below HO5.out hb6)
  have HB6 := Lib.hid (under HB5.out hb6)
  have W6 := Lib.hid liw
  clear hb6 ho6 liw HO5 HB5 M5
  go_wp2_with (at_builtin; refine wpList_append_own _ rfl _ _ 22 rfl w4.heap.size 5 i0 (.int .u8 0) 1 1 Try.underlying22 hi hz0 hz1 hz2 rfl (by decide) _ _ _ rfl HO6.out ⟨gw, 0, none⟩ k1 cw (D.map (Value.int .u8)) rfl ?qa ?qb ?qc ?qd ?qe ?qf ?_)
  case qa => simp [HD1.out]
  case qb => exact fun j u hj => reads_add (reads_lie (c := cw) W6.out hgw (by rw [HD1.out]; omega)) hj
  case qc => intro u hu; obtain ⟨x, _, rfl⟩ := List.mem_map.1 hu; rfl
  case qd => unfold maxLen; omega
  case qe => omega
  case qf => exact HB6.out.size
  intro v7 w7 hown7 hgrow7 _
  have hb7 : Below w4.heap.size w4 w7 := HB6.out.grown hgrow7 HB6.out.size (fun j hj => (HO6.out.lt j hj).1)
  have RA7 : Hid (Reads .u8 w7 v7 (l ++ D)) := Lib.hid (reads_own (B := w4.heap.size) (t := 5) (by rw [PL.out, List.map_append]; exact hown7))
  have B7 := Lib.hid (under B4.out hb7)
  have LI7 := Lib.hid (LI4.out.below i4 hb7)
  have M7 := Lib.hid (M4.out.below hb7)
  have U7 := Lib.hid (U4.out.below hgu hb7)
  have UF7 := Lib.hid (fun i => (hb7.frozen (p := ⟨gu, i, none⟩) hgu).trans (UF4.out i))
  have i7 : g < w7.heap.size ∧ gu < w7.heap.size := ⟨Nat.lt_of_lt_of_le i4 hb7.size, Nat.lt_of_lt_of_le hgu hb7.size⟩
  clear hown7 hgrow7 HB6 HO6 W6 hgw hb7 B4 LI4 M4 U4 UF4 i4 hgu
  go_wp2_with fail
  refine (EQ1.out _ _ _ (by rw [← PL.out]; exact reads_lie U7.out i7.2 (by rw [PL.out]; omega)) RA7.out).mono ?_
  rintro e w8 ⟨rfl, hb8⟩
  have B8 := Lib.hid (under B7.out hb8)
  have LI8 := Lib.hid (LI7.out.below i7.1 hb8)
  have M8 := Lib.hid (M7.out.below hb8)
  have U8 := Lib.hid (U7.out.below i7.2 hb8)
  have UF8 := Lib.hid (fun i => (hb8.frozen (p := ⟨gu, i, none⟩) i7.2).trans (UF7.out i))
  have i8 : g < w8.heap.size ∧ gu < w8.heap.size := ⟨Nat.lt_of_lt_of_le i7.1 hb8.size, Nat.lt_of_lt_of_le i7.2 hb8.size⟩
  clear hb8 RA7 B7 LI7 M7 U7 UF7 i7
  go_wp2_with fail
  refine (EI.out _ _ _ M8.out (RX.out.below B8.out)).mono ?_
  rintro e w9 ⟨rfl, hb9⟩
  have B9 := Lib.hid (under B8.out hb9)
  have LI9 := Lib.hid (LI8.out.below i8.1 hb9)
  have U9 := Lib.hid (U8.out.below i8.2 hb9)
  have UF9 := Lib.hid (fun i => (hb9.frozen (p := ⟨gu, i, none⟩) i8.2).trans (UF8.out i))
  have i9 : g < w9.heap.size ∧ gu < w9.heap.size := ⟨Nat.lt_of_lt_of_le i8.1 hb9.size, Nat.lt_of_lt_of_le i8.2 hb9.size⟩
  clear hb9 B8 LI8 M8 U8 UF8 i8
  go_wp2_with fail
  obtain ⟨W10, hW10⟩ : ∃ W, W = w9.alloc (.cells #[.int .i64 (-1), .int .i64 0, .int .i64 59, .int .i64 60, .int .i64 400] 3) := ⟨_, rfl⟩
  rw [← hW10]
  have hbA : Below w9.heap.size w9 W10 := by rw [hW10]; exact below_alloc w9 _
  have hlt10 : w9.heap.size < W10.heap.size := by rw [hW10]; simp
  have HM : Hid (∀ k, k < 5 → ∃ mk : Int, W10.cell? ⟨w9.heap.size, k, none⟩ = some (.int .i64 mk) ∧ mk ≤ 1000) := Lib.hid (fun k hk => by
    rw [hW10]
    match k, hk with
    | 0, _ => exact ⟨-1, by simp [go_sem], by omega⟩
    | 1, _ => exact ⟨0, by simp [go_sem], by omega⟩
    | 2, _ => exact ⟨59, by simp [go_sem], by omega⟩
    | 3, _ => exact ⟨60, by simp [go_sem], by omega⟩
    | 4, _ => exact ⟨400, by simp [go_sem], by omega⟩)
  have B10 := Lib.hid (under B9.out hbA)
  have LI10 := Lib.hid (LI9.out.below i9.1 hbA)
  have U10 := Lib.hid (U9.out.below i9.2 hbA)
  have UF10 := Lib.hid (fun i => (hbA.frozen (p := ⟨gu, i, none⟩) i9.2).trans (UF9.out i))
  have i10 : g < W10.heap.size ∧ gu < W10.heap.size := ⟨Nat.lt_of_lt_of_le i9.1 hbA.size, Nat.lt_of_lt_of_le i9.2 hbA.size⟩
  clear hbA B9 LI9 U9 UF9 i9 hW10
  go_loopw [56] (fun i wr => ∃ k : Nat, i = .int .i64 k ∧ k ≤ 5 ∧ Below W10.heap.size W10 wr) (fun i _ => 5 - (intOf i).toNat)
  case atStart => exact ⟨0, rfl, by omega, Below.refl _ _⟩
  case round =>
    obtain ⟨k, rfl, hk, hBr⟩ := hrel
    by_cases gk : k < 5
    · obtain ⟨mk, hc, hmk⟩ := HM.out k gk
      have hcell := (hBr.cell (p := ⟨w9.heap.size, k, none⟩) hlt10).trans hc
      have HBr := Lib.hid hBr
      have G1 := Lib.hid (GR.out mk (by omega) _ wr (reads_lie (c := cap) (LI10.out.below i10.1 hBr).left (Nat.lt_of_lt_of_le i10.1 hBr.size) (by omega)))
      have G2 := Lib.hid (fun W (hb : Below W10.heap.size W10 W) => RR.out mk (by omega) _ W (reads_lie (c := cap) (LI10.out.below i10.1 hb).left (Nat.lt_of_lt_of_le i10.1 hb.size) (by omega)))
      have hgl := GL.out mk
      generalize gotRow l a mk = r at *
      obtain ⟨r1, r2, r3⟩ := r
      simp only at hgl
      clear hBr hc
      go_wp2_with fail
      refine G1.out.mono ?_
      rintro e w11 ⟨v11, rfl, hb11, ho11⟩
      have hB11 := under HBr.out hb11
      have R11 := Lib.hid (reads_own (l := r1) ho11)
      have G3 := Lib.hid (G2.out _ hB11)
      have HB11 := Lib.hid hB11
      clear hb11 ho11 G1 G2 HBr hB11 hcell
      go_wp2_with fail
      refine G3.out.mono ?_
      rintro e w12 ⟨v12, rfl, hb12, ho12⟩
      have R12 := Lib.hid (R11.out.below hb12)
      have S12 := Lib.hid (reads_own (l := r1) ho12)
      have HB12 := Lib.hid (under HB11.out hb12)
      clear hb12 ho12 G3 HB11 R11
      go_wp2_with fail
      refine (equalI r1 r1 (by omega) _ _ _ R12.out S12.out).mono ?_
      rintro e w13 ⟨rfl, hb13⟩
      rw [eqB_true rfl]
      have hB13 := under HB12.out hb13
      clear hb13 R12 S12 HB12
      go_wp2_with fail
      go_roundw
      case rel => exact ⟨k + 1, by simp, by omega, hB13⟩
      case measure => simp [intOf]; omega
    · have B13 := Lib.hid (under B10.out hBr)
      have LI13 := Lib.hid (LI10.out.below i10.1 hBr)
      have U13 := Lib.hid (U10.out.below i10.2 hBr)
      have UF13 := Lib.hid (fun i => (hBr.frozen (p := ⟨gu, i, none⟩) i10.2).trans (UF10.out i))
      have i13 : g < wr.heap.size ∧ gu < wr.heap.size := ⟨Nat.lt_of_lt_of_le i10.1 hBr.size, Nat.lt_of_lt_of_le i10.2 hBr.size⟩
      clear B10 LI10 U10 UF10 i10 hBr
      obtain ⟨wm, hwm⟩ : ∃ x, x = wr := ⟨_, rfl⟩
      subst hwm
      go_wp2_with fail
      go_loopw [93] (fun i wr => ∃ k : Nat, i = .int .i64 k ∧ k ≤ (l.length + k1) ∧ Hid (Near gu wm wr ∧ (∀ i z, k ≤ i → (l ++ D)[i]? = some z → wr.cell? ⟨gu, i, none⟩ = some (.int .u8 z)) ∧ ∀ i, wr.frozen? ⟨gu, i, none⟩ = false)) (fun i _ => (l.length + k1) - (intOf i).toNat)
      case atStart => exact ⟨0, rfl, by omega, Lib.hid ⟨Near.refl _ _, fun i z _ hz => by have := U13.out i z hz; rwa [Nat.zero_add] at this, UF13.out⟩⟩
      case round =>
        obtain ⟨k, rfl, hk, hN⟩ := hrel
        by_cases gk : k < (l.length + k1)
        · obtain ⟨z, hz⟩ : ∃ z, (l ++ D)[k]? = some z := ⟨_, List.getElem?_eq_getElem (by have := PL.out; omega)⟩
          have hc := hN.out.2.1 k z (Nat.le_refl _) hz
          have hf := hN.out.2.2 k
          have hzr := PR.out z (List.mem_of_getElem? hz)
          clear hz
          go_wp2_with fail
          go_roundw
          case rel => exact ⟨k + 1, by simp, by omega, Lib.hid ⟨hN.out.1.set (.inl rfl) _, fun i z' hi hz' => (World.cell?_setCell_other _ _ _ _ (fun e => by injection e with _ e2 _; omega)).trans (hN.out.2.1 i z' (by omega) hz'), fun i => by rw [World.frozen?_setCell]; exact hN.out.2.2 i⟩⟩
          case measure => simp [intOf]; omega
        · have hNr := hN.out.1
          clear hN
          have B14 := Lib.hid (hNr.below B13.out hwgu)
          have LI14 := Lib.hid (LI13.out.near hNr i13.1 (by omega))
          have i14 : g < wr.heap.size := Nat.lt_of_lt_of_le i13.1 hNr.size
          clear B13 LI13 U13 UF13 i13 hNr
          go_wp2_with fail
          refine (HKP.out _ B14.out g cap i14 hcap LI14.out).mono ?_
          rintro e w15 ⟨rfl, hb15⟩
          have B15 := Lib.hid (under B14.out hb15)
          clear hb15 B14 LI14
          go_wp2_with fail
          go_ret
          exact ⟨rfl, B15.out⟩

theorem rows_any (x : List Int) (hx : x.length ≤ 9223372036854775807) (hxr : ∀ z ∈ x, -9223372036854775808 ≤ z ∧ z ≤ 9223372036854775807) (b : List Int) (hbl : b.length ≤ 9223372036854775807) (hbb : ∀ z ∈ b, 0 ≤ z ∧ z < 256) (a : Int) (v0 v : Value) (w : World) (h0 : Reads .i64 w v0 x) (h : Reads .u8 w v b) :
    Calls Try.prog 5 #[v0, v, .int .i64 a] w (Ret w (.bool true)) := by
  by_cases g : x.length ≤ 60
  · exact rows_small x g hxr b hbl hbb a v0 v w h0 h
  · exact rows_big x ⟨by omega, hx⟩ hxr b hbl hbb a v0 v w h0 h
end Go.Proofs.Ytahfopednhmbiaa
