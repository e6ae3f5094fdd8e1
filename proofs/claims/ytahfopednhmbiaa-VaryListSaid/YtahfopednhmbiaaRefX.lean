/-
  The document's own answers for layer 2: rows. Conditions: those written at each fact.
-/
import Derived.Test.YtahfopednhmbiaaRefW
import Derived.Test.YtahfopednhmbiaaShort
namespace Go.Proofs.Ytahfopednhmbiaa
open Go.RowKit Go.Shelf

set_option maxRecDepth 100000 in
set_option maxHeartbeats 2000000 in
theorem rowBytesR (ms : List Int) (hm : ms.length ≤ 1000) (hr : ∀ z ∈ ms, -9223372036854775808 ≤ z ∧ z ≤ 9223372036854775807) (v : Value) (w : World) (h : Reads .i64 w v ms) :
    Calls Try.prog 27 #[v] w (MadeB w (rowBytes ms)) := by
  obtain ⟨i0, hi, hz0, hz1, hz2⟩ := info_parts infoU8
  obtain ⟨A, c, rfl, hc, hk⟩ := h
  have HK := Lib.hid hk
  have HR := Lib.hid hr
  have hd := digs_ten (u := ms.length) (by omega)
  have BY := Lib.hid (fun W => bytesR ms.length (by omega) W)
  have hbl : ∀ k, (digs ms.length ++ bytesOf Lib.zigzag (ms.take k)).length ≤ 20000 := fun k => by
    have := bytesOf_len (f := Lib.zigzag) (ms := ms.take k) (fun z hz => Lib.zigzag_lt (hr z (List.mem_of_mem_take hz)).1 (hr z (List.mem_of_mem_take hz)).2)
    have h2 : (ms.take k).length ≤ 1000 := by simp; omega
    rw [List.length_append]
    omega
  have HBL := Lib.hid hbl
  clear hk hr hbl
  go_enter Try.func27, Try.ntmps27
  go_wp2_with fail
  refine (BY.out _).mono ?_
  rintro e w1 ⟨v1, rfl, hb1, ho1⟩
  clear BY
  go_wp2_with fail
  go_loopw [3, 12] (fun v3 i wr => ∃ k : Nat, i = .int .i64 k ∧ k ≤ ms.length ∧ Below w.heap.size w wr ∧ wr.ownsRow w.heap.size 5 1 v3 (digs ms.length ++ bytesOf Lib.zigzag (ms.take k)).length ((digs ms.length ++ bytesOf Lib.zigzag (ms.take k)).map (Value.int .u8))) (fun _ i _ => ms.length - (intOf i).toNat)
  case atStart => exact ⟨0, rfl, by omega, hb1, by simpa [bytesOf] using ho1⟩
  case round =>
    obtain ⟨k, rfl, hk, hB, hown⟩ := hrel
    clear hb1 ho1
    by_cases g : k < ms.length
    · obtain ⟨z, hz⟩ : ∃ z, ms[k]? = some z := ⟨_, List.getElem?_eq_getElem g⟩
      obtain ⟨b, off, rfl, hbw, hcell⟩ := HK.out k z hz
      have hc1 := (hB.cell (p := ⟨b, off + k, none⟩) hbw).trans hcell
      have hzr := HR.out z (List.mem_of_getElem? hz)
      have hsn := bytesOf_snoc (f := Lib.zigzag) hz
      have e2 : digs ms.length ++ bytesOf Lib.zigzag (ms.take (k + 1)) = (digs ms.length ++ bytesOf Lib.zigzag (ms.take k)) ++ digs (Lib.zigzag z) := by rw [hsn, List.append_assoc]
      have E2 := Lib.hid e2
      have SG := Lib.hid (signedR z hzr.1 hzr.2 wr)
      have hb20 := HBL.out k
      have hd2 := digs_ten (Lib.zigzag_lt hzr.1 hzr.2)
      have DN := Lib.hid (digs_nil (Lib.zigzag z))
      clear hcell hz hsn e2
      generalize digs ms.length ++ bytesOf Lib.zigzag (ms.take k) = K at *
      generalize digs (Lib.zigzag z) = D at *
      have HO := Lib.hid hown
      have HB := Lib.hid hB
      clear hown hB
      go_wp2_with fail
      refine SG.out.mono ?_
      rintro e w2 ⟨v2, rfl, hb2, ho2⟩
      obtain ⟨g2, c2, rfl, hcells⟩ := owns_lie ho2 DN.out
      have HC := Lib.hid hcells
      have HO2 := Lib.hid (owns_below HO.out hb2)
      have HB2 := Lib.hid (under HB.out hb2)
      clear hb2 ho2 hcells HO HB SG hc1
      go_wp2_with (at_builtin; refine wpList_append_own _ rfl _ _ 22 rfl w.heap.size 5 i0 (.int .u8 0) 1 1 Try.underlying22 hi hz0 hz1 hz2 rfl (by decide) _ _ _ rfl HO2.out ⟨g2, 0, none⟩ _ c2 (D.map (Value.int .u8)) rfl ?qc1 HC.out ?qc3 ?qc4 ?qc5 ?qc6 ?_)
      case qc1 => simp
      case qc3 => intro u hu; obtain ⟨x, _, rfl⟩ := List.mem_map.1 hu; rfl
      case qc4 => unfold maxLen; omega
      case qc5 => omega
      case qc6 => exact HB2.out.size
      intro v' w3 hown' hgrow _
      have hB3 := HB2.out.grown hgrow HB2.out.size (fun j hj => (HO2.out.lt j hj).1)
      clear hgrow HB2 HO2 HC
      go_wp2_with fail
      go_roundw
      case rel => exact ⟨k + 1, by simp, by omega, hB3, by rw [E2.out]; simpa using hown'⟩
      case measure => simp [intOf]; omega
    · have hkl : k = ms.length := by omega
      subst hkl
      rw [List.take_of_length_le (Nat.le_refl _)] at hown
      have HO := Lib.hid hown
      clear hown
      go_wp2_with fail
      go_ret
      exact ⟨_, rfl, hB, HO.out⟩

/-- A slice's length. -/
def lenOf : Value → Nat
  | .slice _ L _ => L
  | _ => 0
theorem lenOf_slice {A : Option Addr} {n c : Nat} : lenOf (.slice A n c) = n := rfl
theorem lenOf_own {w : World} {t : TypeId} {v : Value} {n : Nat} {xs : List Value} {B : Nat} (h : w.ownsRow B t 1 v n xs) : lenOf v = n := by
  obtain ⟨A, c, rfl⟩ := made_len h
  rfl
set_option maxRecDepth 100000 in
set_option maxHeartbeats 4000000 in
theorem refRow_any (l : List Int) (hl : l.length ≤ 1000000) (hb : ∀ z ∈ l, 0 ≤ z ∧ z < 256) (a most : Int) (hm : most ≤ 9223372036854775807) (v : Value) (w : World) (hr : Reads .u8 w v l) :
    Calls Try.prog 30 #[v, .int .i64 a, .int .i64 most] w (MadeR w (gotRow l a most)) := by
  have G := Lib.hid (refGet_any l hl hb a v w hr)
  have hgr := got_range hb a
  have HB := Lib.hid hb
  have HR := Lib.hid hr
  obtain ⟨A0, c0, rfl, hc0, hjunk⟩ := hr
  clear hjunk
  obtain ⟨i0, hi, hz0, hz1, hz2⟩ := info_parts infoI64
  clear hb
  by_cases gx : a < 0 ∨ (l.length : Int) < a ∨ most < 0
  · have E : Hid (gotRow l a most = ([], 0, 2)) := Lib.hid (by
      unfold gotRow
      by_cases g0 : most < 0
      · rw [if_pos g0]
      · have hx : a < 0 ∨ (l.length : Int) < a := by omega
        have e2 := (got_bad hx).2.2
        rw [if_neg g0, if_pos (by rw [e2]; decide), e2])
    clear G HR HB
    by_cases g1 : a < 0
    · clear gx
      go_enter Try.func30, Try.ntmps30
      go_wp2_with fail
      go_ret3
      rw [E.out]
      exact ⟨_, rfl, Below.refl _ _, World.ownsRow_nil _ _ _ _⟩
    · by_cases g2 : (l.length : Int) < a
      · clear gx
        go_enter Try.func30, Try.ntmps30
        go_wp2_with fail
        go_ret3
        rw [E.out]
        exact ⟨_, rfl, Below.refl _ _, World.ownsRow_nil _ _ _ _⟩
      · have g3 : most < 0 := by omega
        have g2' : decide ((l.length : Int) < a) = false := decide_eq_false g2
        clear gx
        go_enter Try.func30, Try.ntmps30
        go_wp2_with fail
        go_ret3
        rw [E.out]
        exact ⟨_, rfl, Below.refl _ _, World.ownsRow_nil _ _ _ _⟩
  · obtain ⟨a', rfl⟩ : ∃ a' : Nat, a = a' := ⟨a.toNat, by omega⟩
    have t0 : decide ((a' : Int) < 0) = false := by simp
    have t1 : decide ((l.length : Int) < (a' : Int)) = false := decide_eq_false (by omega)
    have t1' : decide (l.length < a') = false := decide_eq_false (by omega)
    have t2 : decide (most < 0) = false := decide_eq_false (by omega)
    have m0 : ¬ most < 0 := by omega
    have ha : a' ≤ l.length := by omega
    clear gx
    by_cases ge : gotE l a' = 0
    · obtain ⟨q, eq, hpq, hql⟩ := got_place ha ge
      obtain ⟨n, en⟩ : ∃ n : Nat, gotN l a' = n := ⟨(gotN l a').toNat, by omega⟩
      have em : gotM l a' = ((q - a' : Nat) : Int) := by unfold gotM; rw [if_pos ge, eq]; omega
      rw [ge, en, em] at G
      rw [en] at hgr
      by_cases gm : most < (n : Int)
      · have E := Lib.hid (show gotRow l a' most = ([], 0, 3) from by unfold gotRow; rw [if_neg m0, if_neg (by simp [ge]), en, if_pos gm])
        clear HR HB ge eq en em
        go_enter Try.func30, Try.ntmps30
        go_wp2_with fail
        refine G.out.mono ?_
        rintro e w1 ⟨rfl, rfl⟩
        go_wp2_with fail
        go_ret3
        rw [E.out]
        exact ⟨_, rfl, Below.refl _ _, World.ownsRow_nil _ _ _ _⟩
      · have E := Lib.hid (show gotRow l a' most = rowOf n l q from by unfold gotRow; rw [if_neg m0, if_neg (by simp [ge]), en, if_neg gm, eq]; rfl)
        have sq : (a' : Int) + ((q - a' : Nat) : Int) = (q : Int) := by omega
        obtain ⟨k, rfl⟩ : ∃ k, q = a' + k := ⟨q - a', by omega⟩
        rw [show a' + k - a' = k from by omega] at G
        clear ge eq en em sq
        go_enter Try.func30, Try.ntmps30
        go_wp2_with fail
        refine G.out.mono ?_
        rintro e w1 ⟨rfl, rfl⟩
        clear G
        go_wp2_with fail
        go_loopw [13, 12] (fun v13 v12 wr => ∃ (K : List Int) (p : Nat), v12 = .int .i64 p ∧ K.length ≤ n ∧ K.length ≤ p ∧ p ≤ l.length ∧ Hid (behind K (rowOf (n - K.length) l p) = rowOf n l ((a' + k : Nat) : Int)) ∧ wr.ownsRow w.heap.size 2 1 v13 K.length (K.map (Value.int .i64)) ∧ Below w.heap.size w wr)
          (fun v13 _ _ => n - lenOf v13)
        case atStart => exact ⟨[], a' + k, by simp, by simp, by simp, hql, Lib.hid rowOf_nil, World.ownsRow_nil _ _ _ _, Below.refl _ _⟩
        case round =>
          obtain ⟨K, p, rfl, hkn, hkp, hpl, hE, hown, hB⟩ := hrel
          obtain ⟨A3, c3, rfl⟩ := made_len hown
          have hK6 : K.length ≤ 1000000 := by omega
          by_cases g : K.length < n
          · have GN := Lib.hid (number_any l hl HB.out p _ wr (HR.out.below hB))
            have hgr2 := got_range HB.out p
            have hur := unz_range hgr2.1 hgr2.2
            by_cases ge : gotE l p = 0
            · obtain ⟨q2, eq, hpq2, hql2⟩ := got_place hpl ge
              have hE2 : Hid (behind (K ++ [unz (gotN l p)]) (rowOf (n - (K.length + 1)) l q2) = rowOf n l ((a' + k : Nat) : Int)) := Lib.hid (by
                have := hE.out
                rw [show n - K.length = (n - (K.length + 1)) + 1 from by omega, behind_next ge, eq] at this
                exact this)
              rw [ge, eq] at GN
              generalize unz (gotN l p) = z at *
              clear hE ge eq hgr2
              have HO := Lib.hid hown
              have HBW := Lib.hid hB
              clear hown hB
              go_wp2_with fail
              refine GN.out.mono ?_
              rintro e w2 ⟨rfl, rfl⟩
              clear GN
              go_wp2_with (at_builtin; refine wpList_append_own _ rfl _ _ 40 rfl w.heap.size 2 i0 (.int .i64 0) 1 8 Try.underlying40 hi hz0 hz1 hz2 rfl (by decide) _ _ _ rfl (HO.out.alloc _) ⟨wr.heap.size, 0, none⟩ 1 1 [.int .i64 z] rfl rfl one_cell64 (by simp [Value.oneCell']) ?c3 ?c4 ?c5 ?_)
              case c3 => unfold maxLen; omega
              case c4 => omega
              case c5 => have := HBW.out.size; simp; omega
              intro v' w3 hown' hgrow _
              have hB3 : Below w.heap.size w w3 := (HBW.out.alloc HBW.out.size _).grown hgrow (by have := HBW.out.size; simp; omega) (fun j hj => (HO.out.lt j hj).1)
              have hlv := Lib.hid (lenOf_own hown')
              clear hgrow HO HBW
              go_wp2_with fail
              go_roundw
              case rel => exact ⟨K ++ [z], q2, rfl, by simp; omega, by simp; omega, hql2, by simpa using hE2, by simpa using hown', hB3⟩
              case measure =>
                show n - lenOf v' < n - lenOf (.slice A3 K.length c3)
                rw [hlv.out, lenOf_slice]
                omega
            · have hE2 : Hid (rowOf n l ((a' + k : Nat) : Int) = ([], 0, gotE l p)) := Lib.hid (by
                have := hE.out
                rw [show n - K.length = (n - (K.length + 1)) + 1 from by omega, behind_stop ge] at this
                exact this.symm)
              generalize gotE l p = ev at *
              have t : (ev != 0) = true := by rw [bne_iff_ne]; exact ge
              generalize unz (gotN l p) = z at *
              generalize gotP l p = q2 at *
              clear hE ge hgr2 hur hown
              go_wp2_with fail
              refine GN.out.mono ?_
              rintro e w2 ⟨rfl, rfl⟩
              go_wp2_with fail
              go_ret3
              rw [E.out, hE2.out]
              exact ⟨_, rfl, hB, World.ownsRow_nil _ _ _ _⟩
          · have hE2 : Hid (rowOf n l ((a' + k : Nat) : Int) = (K, (p : Int), 0)) := Lib.hid (by
              have := hE.out
              rw [show n - K.length = 0 from by omega, behind_all] at this
              exact this.symm)
            have HO := Lib.hid hown
            clear hE hown
            go_wp2_with fail
            go_ret3
            rw [E.out, hE2.out]
            exact ⟨_, rfl, hB, HO.out⟩
    · have E := Lib.hid (show gotRow l a' most = ([], 0, gotE l a') from by unfold gotRow; rw [if_neg m0, if_pos ge])
      generalize gotE l a' = ev at *
      generalize gotN l a' = nn at *
      generalize gotM l a' = pp at *
      have t : (ev != 0) = true := by rw [bne_iff_ne]; exact ge
      clear HR HB ge
      go_enter Try.func30, Try.ntmps30
      go_wp2_with fail
      refine G.out.mono ?_
      rintro e w1 ⟨rfl, rfl⟩
      go_wp2_with fail
      go_ret3
      rw [E.out]
      exact ⟨_, rfl, Below.refl _ _, World.ownsRow_nil _ _ _ _⟩
end Go.Proofs.Ytahfopednhmbiaa
