/-
  Layer 8: the law PmcPairs's walk. Conditions: those written at each fact.
-/
import Derived.Test.YtmkminaipeodnaaPrM
namespace Go.Proofs.Ytmkminaipeodnaa.P8
open Go.RowKit Go.Shelf

set_option maxRecDepth 100000 in
set_option maxHeartbeats 4000000 in
theorem pairs8_any (l : List Bd) (hl : l.length ≤ 9223372036854775807) (v : Value) (w : World) (h : ReadsD w v l) : Calls Try.prog 7 #[v] w (Ret w (.bool true)) := by
  have WK := Lib.hid wakes_any
  have FW := Lib.hid (fun W (hb : Below w.heap.size w W) => few_any l hl v W (h.below hb))
  obtain ⟨A, c, rfl, _, _⟩ := h
  have hml : (l.take 257).length ≤ 257 := by rw [List.length_take]; omega
  generalize l.take 257 = m0 at *
  go_enter Try.func7, Try.ntmps7
  go_wp2_with fail
  refine (WK.out _).mono ?_
  rintro e w1 ⟨rfl, hb1⟩
  go_wp2_with fail
  refine (FW.out w1 hb1).mono ?_
  rintro e w2 hh
  obtain ⟨hb2, A2, c2, rfl, hc2, hr2⟩ := hh.open
  have B2 := under hb1 hb2
  clear hh hb1 hb2 WK FW
  by_cases g60 : m0.length ≤ 60
  · have hm60 : m0.length ≤ 60 := g60
    have H2 := Lib.hid hr2
    have hnc : m0.length ≤ c2 := hc2
    obtain ⟨m, hm⟩ : ∃ m, m = m0 := ⟨_, rfl⟩
    rw [← hm] at H2 hm60 hnc hml g60 hc2 hr2 ⊢
    have i60 : ¬ (60 : Int) < (m.length : Int) := by omega
    have i61 : (m.length : Int) ≤ (c2 : Int) := by omega
    clear hm hr2 hc2
    have BC := Lib.hid (bcheck_any m (by omega) _ w2 H2.out)
    cases gk : okD m
    · rw [gk] at BC
      simp only [Bool.false_eq_true, if_false] at BC
      clear gk
      go_wp2_with fail
      refine BC.out.mono ?_
      rintro e w3 ⟨rfl, hb3⟩
      go_wp2_with fail
      go_ret
      exact ⟨rfl, under B2 hb3⟩
    rw [gk] at BC
    simp only [if_true] at BC
    have HGK := Lib.hid gk
    have HK := Lib.hid (show ∀ i r, m[i]? = some r → ∃ b off, A2 = some ⟨b, off, none⟩ ∧ b < w2.heap.size ∧ w2.cell? ⟨b, off + i * 3, none⟩ = some (.int .i64 r.t) ∧ w2.cell? ⟨b, off + i * 3 + 1, none⟩ = some (.int .i64 r.lo) ∧ w2.cell? ⟨b, off + i * 3 + 2, none⟩ = some (.int .i64 r.hi) from by obtain ⟨_, _, e, _, hk⟩ := H2.out; injection e with e1 e2 e3; subst e1; exact hk)
    clear gk
    go_wp2_with fail
    refine BC.out.mono ?_
    rintro e w3 ⟨rfl, hb3⟩
    have HB3 := Lib.hid hb3
    clear BC hb3
    go_wp2_with fail
    go_loopw [4, 27] (fun o i wr => ∃ (p : Bool) (k : Nat), o = .bool p ∧ i = .int .i64 k ∧ k ≤ m.length ∧ Hid (p = true → Sep m) ∧ Hid (p = false → NoSep m k) ∧ Hid (Below w2.heap.size w2 wr)) (fun _ i _ => m.length - (intOf i).toNat)
    case atStart => exact ⟨false, 0, rfl, rfl, by omega, Lib.hid (by simp), Lib.hid (fun _ x y b c _ h => by omega), HB3⟩
    case round =>
      obtain ⟨p, k, rfl, rfl, hkl, hS, hN, hW⟩ := hrel
      clear HB3
      by_cases gq : k < m.length
      · obtain ⟨⟨t, a, d⟩, hx⟩ : ∃ s, m[k]? = some s := ⟨_, List.getElem?_eq_getElem gq⟩
        obtain ⟨bb, off, rfl, hbw, hc1, hc2', hc3⟩ := HK.out k _ hx
        have c1 := (hW.out.cell (p := ⟨bb, off + k * 3, none⟩) hbw).trans hc1
        have c2' := (hW.out.cell (p := ⟨bb, off + k * 3 + 1, none⟩) hbw).trans hc2'
        have c3 := (hW.out.cell (p := ⟨bb, off + k * 3 + 2, none⟩) hbw).trans hc3
        simp only at c1 c2' c3
        have i1 : (k : Int) < (m.length : Int) := by omega
        have i0 : (0 : Int) ≤ (k : Int) := by omega
        have i2 : (k : Int) ≤ (c2 : Int) := by omega
        have HX := Lib.hid hx
        obtain ⟨wo, hwo⟩ : ∃ x, x = wr := ⟨_, rfl⟩
        subst hwo
        have hH0 : Keeps w2 [(wo.heap.size, 0, .int .i64 t), (wo.heap.size, 1, .int .i64 a), (wo.heap.size, 2, .int .i64 d)] (wo.alloc (.cells #[.int .i64 t, .int .i64 a, .int .i64 d] 36)) := newK3 (L := []) (Keeps.alloc (L := []) ⟨hW.out, trivial⟩ _)
        have HH0 := Lib.hid hH0
        clear hc1 hc2' hc3 hx hH0
        go_wp2_with fail
        go_loopw [4, 36] (fun o i wi => ∃ (p : Bool) (j : Nat), o = .bool p ∧ i = .int .i64 j ∧ j ≤ k ∧ Hid (p = true → Sep m) ∧ Hid (p = false → NoSep m k ∧ NoRow m k j) ∧ Hid (Keeps w2 [(wo.heap.size, 0, .int .i64 t), (wo.heap.size, 1, .int .i64 a), (wo.heap.size, 2, .int .i64 d)] wi)) (fun _ i _ => k - (intOf i).toNat)
        case atStart => exact ⟨p, 0, rfl, rfl, by omega, hS, Lib.hid (fun e => ⟨hN.out e, fun y b c h => by omega⟩), HH0⟩
        case round =>
          obtain ⟨p, j, rfl, rfl, hjl, hS, hN, hH⟩ := hrel
          clear HH0 c1 c2' c3
          by_cases gj : j < k
          · obtain ⟨⟨t', a', d'⟩, hy⟩ : ∃ s, m[j]? = some s := ⟨_, List.getElem?_eq_getElem (by omega)⟩
            obtain ⟨bb', off', e', _, hc1, hc2', hc3⟩ := HK.out j _ hy
            cases e'
            have c1 := (hH.out.1.cell (p := ⟨bb, off + j * 3, none⟩) hbw).trans hc1
            have c2' := (hH.out.1.cell (p := ⟨bb, off + j * 3 + 1, none⟩) hbw).trans hc2'
            have c3 := (hH.out.1.cell (p := ⟨bb, off + j * 3 + 2, none⟩) hbw).trans hc3
            simp only at c1 c2' c3
            obtain ⟨⟨kz0, kc0, kf0⟩, ⟨kz1, kc1, kf1⟩, ⟨kz2, kc2, kf2⟩, _⟩ := hH.out.2
            have HY := Lib.hid hy
            have j1 : (j : Int) < (k : Int) := by omega
            have j0 : (0 : Int) ≤ (j : Int) := by omega
            have HH1 := Lib.hid (hH.out.alloc (.cells #[.int .i64 t', .int .i64 a', .int .i64 d'] 36))
            clear hc1 hc2' hc3 hy
            cases p
            · by_cases g1 : d' < a
              · have E : Hid (Sep m) := Lib.hid (sep_at HX.out HY.out (by simp [sepB, g1]))
                clear hS hN
                go_wp2_with fail
                go_roundw
                case rel => exact ⟨true, j + 1, rfl, by simp, gj, Lib.hid (fun _ => E.out), Lib.hid (fun e => by cases e), HH1⟩
                case measure => exact index_less gj
              · by_cases g2 : d < a'
                · have E : Hid (Sep m) := Lib.hid (sep_at HX.out HY.out (by simp [sepB, g2]))
                  clear hS hN
                  go_wp2_with fail
                  go_roundw
                  case rel => exact ⟨true, j + 1, rfl, by simp, gj, Lib.hid (fun _ => E.out), Lib.hid (fun e => by cases e), HH1⟩
                  case measure => exact index_less gj
                · have E := Lib.hid (And.intro (hN.out rfl).1 ((hN.out rfl).2.next HX.out HY.out (sepB_false.2 ⟨by simp only; omega, by simp only; omega⟩)))
                  clear hS hN
                  go_wp2_with fail
                  go_roundw
                  case rel => exact ⟨false, j + 1, rfl, by simp, gj, Lib.hid (fun e => by cases e), Lib.hid (fun _ => E.out), HH1⟩
                  case measure => exact index_less gj
            · have E := Lib.hid (hS.out rfl)
              clear hS hN
              go_wp2_with fail
              go_roundw
              case rel => exact ⟨true, j + 1, rfl, by simp, gj, Lib.hid (fun _ => E.out), Lib.hid (fun e => by cases e), HH1⟩
              case measure => exact index_less gj
          · have j1 : ¬ (j : Int) < (k : Int) := by omega
            have hjk : j = k := by omega
            have E : Hid (p = false → NoSep m (k + 1)) := Lib.hid (fun e => by
              obtain ⟨h1, h2⟩ := hN.out e
              rw [hjk] at h2
              exact h1.next h2)
            have HB4 := Lib.hid hH.out.1
            clear hN hH hjk
            go_wp2_with fail
            go_roundw
            case rel => exact ⟨p, k + 1, rfl, by simp, gq, hS, E, HB4⟩
            case measure => exact index_less gq
      · have i1 : ¬ (k : Int) < (m.length : Int) := by omega
        have hkm : k = m.length := by omega
        have HF := Lib.hid (fun W (hb : Below wr.heap.size wr W) => fitA_any m (by omega) _ W ((H2.out.below hW.out).below hb))
        have HC := Lib.hid (fun W (hb : Below wr.heap.size wr W) => common_any m (by omega) _ W ((H2.out.below hW.out).below hb))
        have HT := Lib.hid (fun x W (hb : Below wr.heap.size wr W) => through_any m (by omega) x _ W ((H2.out.below hW.out).below hb))
        have B3 := under B2 hW.out
        cases p
        · obtain ⟨x, y, z, h1, h2, h3, h4, h5, h6, h7, h8, h9, h10, h11, h12, h13, h14⟩ := pairs_told HGK.out (by rw [← hkm]; exact hN.out rfl)
          rw [h1, h2] at HF
          rw [h1, h3, h4] at HC
          have T1 := Lib.hid (fun W hb => HT.out z W hb)
          have T2 := Lib.hid (fun W hb => HT.out x W hb)
          have T3 := Lib.hid (fun W hb => HT.out y W hb)
          have T4 := Lib.hid (fun W hb => HT.out (x - 1) W hb)
          have T5 := Lib.hid (fun W hb => HT.out (y + 1) W hb)
          rw [h5] at T1
          rw [h6] at T2
          rw [h7] at T3
          rw [h8] at T4
          rw [h9] at T5
          clear hS hN hW HT h1 h2 h3 h4 h5 h6 h7 h8 h9 hkm
          go_wp2_with fail
          refine (HF.out wr (Below.refl _ _)).mono ?_
          rintro e w5 ⟨rfl, hb5⟩
          go_wp2_with fail
          refine (HC.out w5 hb5).mono ?_
          rintro e w6 ⟨rfl, hb6⟩
          replace hb6 := under hb5 hb6
          go_wp2_with fail
          have hH : Keeps wr [(w6.heap.size, 0, .int .i64 x), (w6.heap.size, 1, .int .i64 y)] (w6.alloc (.cells #[.int .i64 x, .int .i64 y] 26)) := newK2 (L := []) (Keeps.alloc (L := []) ⟨hb6, trivial⟩ _)
          refine (T1.out _ hH.1).mono ?_
          rintro e w7 ⟨rfl, hb7⟩
          replace hH := hH.next hb7
          obtain ⟨⟨kz0, kc0, kf0⟩, ⟨kz1, kc1, kf1⟩, _⟩ := hH.2
          clear hb7
          go_wp2_with fail
          refine (T2.out _ hH.1).mono ?_
          rintro e w8 ⟨rfl, hb8⟩
          replace hH := hH.next hb8
          clear hb8 kz0 kc0 kf0 kz1 kc1 kf1
          obtain ⟨⟨kz0, kc0, kf0⟩, ⟨kz1, kc1, kf1⟩, _⟩ := hH.2
          go_wp2_with fail
          refine (T3.out _ hH.1).mono ?_
          rintro e w9 ⟨rfl, hb9⟩
          replace hH := hH.next hb9
          clear hb9 kz0 kc0 kf0 kz1 kc1 kf1
          obtain ⟨⟨kz0, kc0, kf0⟩, ⟨kz1, kc1, kf1⟩, _⟩ := hH.2
          go_wp2_with fail
          refine (T4.out _ hH.1).mono ?_
          rintro e w10 ⟨rfl, hb10⟩
          replace hH := hH.next hb10
          clear hb10 kz0 kc0 kf0 kz1 kc1 kf1
          obtain ⟨⟨kz0, kc0, kf0⟩, ⟨kz1, kc1, kf1⟩, _⟩ := hH.2
          go_wp2_with fail
          refine (T5.out _ hH.1).mono ?_
          rintro e w11 ⟨rfl, hb11⟩
          replace hH := hH.next hb11
          clear hb11 kz0 kc0 kf0 kz1 kc1 kf1
          obtain ⟨⟨kz0, kc0, kf0⟩, ⟨kz1, kc1, kf1⟩, _⟩ := hH.2
          by_cases ge : z - x = y - z
          · have e1 : (z - x == y - z) = true := by simpa using ge
            go_wp2_with fail
            go_ret
            exact ⟨rfl, under B3 hH.1⟩
          · have e1 : (z - x == y - z) = false := beq_eq_false_iff_ne.2 ge
            have e2 : (z - x + 1 == y - z) = true := by
              have : z - x + 1 = y - z := by omega
              simpa using this
            go_wp2_with fail
            go_ret
            exact ⟨rfl, under B3 hH.1⟩
        · obtain ⟨h1, h2⟩ := told_none HGK.out (sep_none (hS.out rfl))
          rw [h1, h2] at HF
          clear hS hN hW HT HC h1 h2 hkm
          go_wp2_with fail
          refine (HF.out wr (Below.refl _ _)).mono ?_
          rintro e w5 ⟨rfl, hb5⟩
          go_wp2_with fail
          go_ret
          exact ⟨rfl, under B3 hb5⟩
  · have H2 := Lib.hid (hr2.front 60 (by omega))
    have hl60 : (m0.take 60).length = 60 := by rw [List.length_take]; omega
    generalize m0.take 60 = m at *
    have i60 : (60 : Int) < (m0.length : Int) := by omega
    have i61 : (60 : Int) ≤ (c2 : Int) := by omega
    have hm60 : m.length ≤ 60 := by omega
    clear hr2
    have BC := Lib.hid (bcheck_any m (by omega) _ w2 H2.out)
    cases gk : okD m
    · rw [gk] at BC
      simp only [Bool.false_eq_true, if_false] at BC
      clear gk
      go_wp2_with fail
      refine BC.out.mono ?_
      rintro e w3 ⟨rfl, hb3⟩
      go_wp2_with fail
      go_ret
      exact ⟨rfl, under B2 hb3⟩
    rw [gk] at BC
    simp only [if_true] at BC
    have HGK := Lib.hid gk
    have HK := Lib.hid (show ∀ i r, m[i]? = some r → ∃ b off, A2 = some ⟨b, off, none⟩ ∧ b < w2.heap.size ∧ w2.cell? ⟨b, off + i * 3, none⟩ = some (.int .i64 r.t) ∧ w2.cell? ⟨b, off + i * 3 + 1, none⟩ = some (.int .i64 r.lo) ∧ w2.cell? ⟨b, off + i * 3 + 2, none⟩ = some (.int .i64 r.hi) from by obtain ⟨_, _, e, _, hk⟩ := H2.out; injection e with e1 e2 e3; subst e1; exact hk)
    clear gk
    go_wp2_with fail
    refine BC.out.mono ?_
    rintro e w3 ⟨rfl, hb3⟩
    have HB3 := Lib.hid hb3
    clear BC hb3
    go_wp2_with fail
    go_loopw [4, 27] (fun o i wr => ∃ (p : Bool) (k : Nat), o = .bool p ∧ i = .int .i64 k ∧ k ≤ m.length ∧ Hid (p = true → Sep m) ∧ Hid (p = false → NoSep m k) ∧ Hid (Below w2.heap.size w2 wr)) (fun _ i _ => m.length - (intOf i).toNat)
    case atStart => exact ⟨false, 0, rfl, rfl, by omega, Lib.hid (by simp), Lib.hid (fun _ x y b c _ h => by omega), HB3⟩
    case round =>
      obtain ⟨p, k, rfl, rfl, hkl, hS, hN, hW⟩ := hrel
      clear HB3
      by_cases gq : k < m.length
      · obtain ⟨⟨t, a, d⟩, hx⟩ : ∃ s, m[k]? = some s := ⟨_, List.getElem?_eq_getElem gq⟩
        obtain ⟨bb, off, rfl, hbw, hc1, hc2', hc3⟩ := HK.out k _ hx
        have c1 := (hW.out.cell (p := ⟨bb, off + k * 3, none⟩) hbw).trans hc1
        have c2' := (hW.out.cell (p := ⟨bb, off + k * 3 + 1, none⟩) hbw).trans hc2'
        have c3 := (hW.out.cell (p := ⟨bb, off + k * 3 + 2, none⟩) hbw).trans hc3
        simp only at c1 c2' c3
        have i1 : (k : Int) < (m.length : Int) := by omega
        have i0 : (0 : Int) ≤ (k : Int) := by omega
        have i2 : (k : Int) ≤ (c2 : Int) := by omega
        have i3 : (k : Int) < 60 := by omega
        have HX := Lib.hid hx
        obtain ⟨wo, hwo⟩ : ∃ x, x = wr := ⟨_, rfl⟩
        subst hwo
        have hH0 : Keeps w2 [(wo.heap.size, 0, .int .i64 t), (wo.heap.size, 1, .int .i64 a), (wo.heap.size, 2, .int .i64 d)] (wo.alloc (.cells #[.int .i64 t, .int .i64 a, .int .i64 d] 36)) := newK3 (L := []) (Keeps.alloc (L := []) ⟨hW.out, trivial⟩ _)
        have HH0 := Lib.hid hH0
        clear hc1 hc2' hc3 hx hH0
        go_wp2_with fail
        go_loopw [4, 36] (fun o i wi => ∃ (p : Bool) (j : Nat), o = .bool p ∧ i = .int .i64 j ∧ j ≤ k ∧ Hid (p = true → Sep m) ∧ Hid (p = false → NoSep m k ∧ NoRow m k j) ∧ Hid (Keeps w2 [(wo.heap.size, 0, .int .i64 t), (wo.heap.size, 1, .int .i64 a), (wo.heap.size, 2, .int .i64 d)] wi)) (fun _ i _ => k - (intOf i).toNat)
        case atStart => exact ⟨p, 0, rfl, rfl, by omega, hS, Lib.hid (fun e => ⟨hN.out e, fun y b c h => by omega⟩), HH0⟩
        case round =>
          obtain ⟨p, j, rfl, rfl, hjl, hS, hN, hH⟩ := hrel
          clear HH0 c1 c2' c3
          by_cases gj : j < k
          · obtain ⟨⟨t', a', d'⟩, hy⟩ : ∃ s, m[j]? = some s := ⟨_, List.getElem?_eq_getElem (by omega)⟩
            obtain ⟨bb', off', e', _, hc1, hc2', hc3⟩ := HK.out j _ hy
            cases e'
            have c1 := (hH.out.1.cell (p := ⟨bb, off + j * 3, none⟩) hbw).trans hc1
            have c2' := (hH.out.1.cell (p := ⟨bb, off + j * 3 + 1, none⟩) hbw).trans hc2'
            have c3 := (hH.out.1.cell (p := ⟨bb, off + j * 3 + 2, none⟩) hbw).trans hc3
            simp only at c1 c2' c3
            obtain ⟨⟨kz0, kc0, kf0⟩, ⟨kz1, kc1, kf1⟩, ⟨kz2, kc2, kf2⟩, _⟩ := hH.out.2
            have HY := Lib.hid hy
            have j1 : (j : Int) < (k : Int) := by omega
            have j0 : (0 : Int) ≤ (j : Int) := by omega
            have HH1 := Lib.hid (hH.out.alloc (.cells #[.int .i64 t', .int .i64 a', .int .i64 d'] 36))
            clear hc1 hc2' hc3 hy
            cases p
            · by_cases g1 : d' < a
              · have E : Hid (Sep m) := Lib.hid (sep_at HX.out HY.out (by simp [sepB, g1]))
                clear hS hN
                go_wp2_with fail
                go_roundw
                case rel => exact ⟨true, j + 1, rfl, by simp, gj, Lib.hid (fun _ => E.out), Lib.hid (fun e => by cases e), HH1⟩
                case measure => exact index_less gj
              · by_cases g2 : d < a'
                · have E : Hid (Sep m) := Lib.hid (sep_at HX.out HY.out (by simp [sepB, g2]))
                  clear hS hN
                  go_wp2_with fail
                  go_roundw
                  case rel => exact ⟨true, j + 1, rfl, by simp, gj, Lib.hid (fun _ => E.out), Lib.hid (fun e => by cases e), HH1⟩
                  case measure => exact index_less gj
                · have E := Lib.hid (And.intro (hN.out rfl).1 ((hN.out rfl).2.next HX.out HY.out (sepB_false.2 ⟨by simp only; omega, by simp only; omega⟩)))
                  clear hS hN
                  go_wp2_with fail
                  go_roundw
                  case rel => exact ⟨false, j + 1, rfl, by simp, gj, Lib.hid (fun e => by cases e), Lib.hid (fun _ => E.out), HH1⟩
                  case measure => exact index_less gj
            · have E := Lib.hid (hS.out rfl)
              clear hS hN
              go_wp2_with fail
              go_roundw
              case rel => exact ⟨true, j + 1, rfl, by simp, gj, Lib.hid (fun _ => E.out), Lib.hid (fun e => by cases e), HH1⟩
              case measure => exact index_less gj
          · have j1 : ¬ (j : Int) < (k : Int) := by omega
            have hjk : j = k := by omega
            have E : Hid (p = false → NoSep m (k + 1)) := Lib.hid (fun e => by
              obtain ⟨h1, h2⟩ := hN.out e
              rw [hjk] at h2
              exact h1.next h2)
            have HB4 := Lib.hid hH.out.1
            clear hN hH hjk
            go_wp2_with fail
            go_roundw
            case rel => exact ⟨p, k + 1, rfl, by simp, gq, hS, E, HB4⟩
            case measure => exact index_less gq
      · have i1 : ¬ (k : Int) < 60 := by omega
        have hkm : k = m.length := by omega
        have HF := Lib.hid (fun W (hb : Below wr.heap.size wr W) => fitA_any m (by omega) _ W ((H2.out.below hW.out).below hb))
        have HC := Lib.hid (fun W (hb : Below wr.heap.size wr W) => common_any m (by omega) _ W ((H2.out.below hW.out).below hb))
        have HT := Lib.hid (fun x W (hb : Below wr.heap.size wr W) => through_any m (by omega) x _ W ((H2.out.below hW.out).below hb))
        have B3 := under B2 hW.out
        cases p
        · obtain ⟨x, y, z, h1, h2, h3, h4, h5, h6, h7, h8, h9, h10, h11, h12, h13, h14⟩ := pairs_told HGK.out (by rw [← hkm]; exact hN.out rfl)
          rw [h1, h2] at HF
          rw [h1, h3, h4] at HC
          have T1 := Lib.hid (fun W hb => HT.out z W hb)
          have T2 := Lib.hid (fun W hb => HT.out x W hb)
          have T3 := Lib.hid (fun W hb => HT.out y W hb)
          have T4 := Lib.hid (fun W hb => HT.out (x - 1) W hb)
          have T5 := Lib.hid (fun W hb => HT.out (y + 1) W hb)
          rw [h5] at T1
          rw [h6] at T2
          rw [h7] at T3
          rw [h8] at T4
          rw [h9] at T5
          clear hS hN hW HT h1 h2 h3 h4 h5 h6 h7 h8 h9 hkm
          go_wp2_with fail
          refine (HF.out wr (Below.refl _ _)).mono ?_
          rintro e w5 ⟨rfl, hb5⟩
          go_wp2_with fail
          refine (HC.out w5 hb5).mono ?_
          rintro e w6 ⟨rfl, hb6⟩
          replace hb6 := under hb5 hb6
          go_wp2_with fail
          have hH : Keeps wr [(w6.heap.size, 0, .int .i64 x), (w6.heap.size, 1, .int .i64 y)] (w6.alloc (.cells #[.int .i64 x, .int .i64 y] 26)) := newK2 (L := []) (Keeps.alloc (L := []) ⟨hb6, trivial⟩ _)
          refine (T1.out _ hH.1).mono ?_
          rintro e w7 ⟨rfl, hb7⟩
          replace hH := hH.next hb7
          obtain ⟨⟨kz0, kc0, kf0⟩, ⟨kz1, kc1, kf1⟩, _⟩ := hH.2
          clear hb7
          go_wp2_with fail
          refine (T2.out _ hH.1).mono ?_
          rintro e w8 ⟨rfl, hb8⟩
          replace hH := hH.next hb8
          clear hb8 kz0 kc0 kf0 kz1 kc1 kf1
          obtain ⟨⟨kz0, kc0, kf0⟩, ⟨kz1, kc1, kf1⟩, _⟩ := hH.2
          go_wp2_with fail
          refine (T3.out _ hH.1).mono ?_
          rintro e w9 ⟨rfl, hb9⟩
          replace hH := hH.next hb9
          clear hb9 kz0 kc0 kf0 kz1 kc1 kf1
          obtain ⟨⟨kz0, kc0, kf0⟩, ⟨kz1, kc1, kf1⟩, _⟩ := hH.2
          go_wp2_with fail
          refine (T4.out _ hH.1).mono ?_
          rintro e w10 ⟨rfl, hb10⟩
          replace hH := hH.next hb10
          clear hb10 kz0 kc0 kf0 kz1 kc1 kf1
          obtain ⟨⟨kz0, kc0, kf0⟩, ⟨kz1, kc1, kf1⟩, _⟩ := hH.2
          go_wp2_with fail
          refine (T5.out _ hH.1).mono ?_
          rintro e w11 ⟨rfl, hb11⟩
          replace hH := hH.next hb11
          clear hb11 kz0 kc0 kf0 kz1 kc1 kf1
          obtain ⟨⟨kz0, kc0, kf0⟩, ⟨kz1, kc1, kf1⟩, _⟩ := hH.2
          by_cases ge : z - x = y - z
          · have e1 : (z - x == y - z) = true := by simpa using ge
            go_wp2_with fail
            go_ret
            exact ⟨rfl, under B3 hH.1⟩
          · have e1 : (z - x == y - z) = false := beq_eq_false_iff_ne.2 ge
            have e2 : (z - x + 1 == y - z) = true := by
              have : z - x + 1 = y - z := by omega
              simpa using this
            go_wp2_with fail
            go_ret
            exact ⟨rfl, under B3 hH.1⟩
        · obtain ⟨h1, h2⟩ := told_none HGK.out (sep_none (hS.out rfl))
          rw [h1, h2] at HF
          clear hS hN hW HT HC h1 h2 hkm
          go_wp2_with fail
          refine (HF.out wr (Below.refl _ _)).mono ?_
          rintro e w5 ⟨rfl, hb5⟩
          go_wp2_with fail
          go_ret
          exact ⟨rfl, under B3 hb5⟩
end Go.Proofs.Ytmkminaipeodnaa.P8
