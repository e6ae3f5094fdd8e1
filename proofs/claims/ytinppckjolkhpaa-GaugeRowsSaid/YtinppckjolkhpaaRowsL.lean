/-
  The walk of the law GaugeRows. Conditions: the bits are of 64 bits.
-/
import Derived.Test.YtinppckjolkhpaaRowP
import Derived.Test.YtinppckjolkhpaaWak
import Derived.Test.YtinppckjolkhpaaGrE
import Derived.Deep.CutBlock
import Derived.Deep.DeepCutAuto
namespace Go.Proofs.Ytinppckjolkhpaa
open Go.RowKit

theorem infoF64 : (Try.prog.info? 29).map (fun i => (i.zero, i.size, i.bytes)) = some (some (.float .f64 0), 1, 8) := by kernel_rfl
/-- What is told once these readings have been gone through. -/
def GoneR (s : Int) (P : List Nat) (K : List Int) (p : Nat) (c : Int) : Prop := K.length ≤ P.length ∧ (rowB s P = none ∧ p = 0 ∧ c = 0 ∧ K = valsF s P ∨ rowB s P = some (p, c) ∧ c ≠ 0)
theorem gone_start {s c0 : Int} (h : Scale s ∧ c0 = 0 ∨ ¬ Scale s ∧ c0 = 2) : GoneR s [] [] 0 c0 := by
  refine ⟨Nat.le_refl _, ?_⟩
  unfold rowB
  rcases h with ⟨h, rfl⟩ | ⟨h, rfl⟩
  · rw [if_pos h]; exact Or.inl ⟨rfl, rfl, rfl, rfl⟩
  · rw [if_neg h]; exact Or.inr ⟨rfl, by decide⟩
/-- One more: nothing is asked of it, where one has been told. -/
theorem gone_late {s : Int} {P : List Nat} {K : List Int} {p : Nat} {c : Int} {b : Nat} (h : GoneR s P K p c) (hc : c ≠ 0) : GoneR s (P ++ [b]) K p c := by
  obtain ⟨h1, h2⟩ := h
  refine ⟨by rw [List.length_append]; omega, Or.inr ⟨?_, hc⟩⟩
  rcases h2 with ⟨_, _, h3, _⟩ | ⟨h3, _⟩
  · exact absurd h3 hc
  · unfold rowB at h3 ⊢
    split
    · rename_i g
      rw [if_pos g] at h3
      exact badR_stays _ _ _ h3
    · rename_i g
      rw [if_neg g] at h3
      exact h3
theorem gone_scale {s : Int} {P : List Nat} {K : List Int} {p : Nat} (h : GoneR s P K p 0) : Scale s ∧ badR s P 0 = none ∧ p = 0 ∧ K = valsF s P := by
  rcases h.2 with ⟨h1, h2, _, h3⟩ | ⟨_, h⟩
  · unfold rowB at h1
    split at h1
    · rename_i g
      exact ⟨g, h1, h2, h3⟩
    · cases h1
  · exact absurd rfl h
theorem gone_good {s : Int} {P : List Nat} {K : List Int} {p : Nat} {b : Nat} (h : GoneR s P K p 0) (hb : codeF b s = 0) : GoneR s (P ++ [b]) (K ++ [valF b s]) p 0 := by
  obtain ⟨g, h1, h2, h3⟩ := gone_scale h
  refine ⟨by have := h.1; rw [List.length_append, List.length_append]; simpa using this, Or.inl ⟨?_, h2, rfl, ?_⟩⟩
  · unfold rowB; rw [if_pos g]; exact badR_good hb _ _ h1
  · rw [h3]; unfold valsF; rw [List.map_append]; rfl
theorem gone_bad {s : Int} {P : List Nat} {K : List Int} {p : Nat} {b : Nat} (h : GoneR s P K p 0) (hb : codeF b s ≠ 0) : GoneR s (P ++ [b]) K P.length (codeF b s) := by
  obtain ⟨g, h1, h2, h3⟩ := gone_scale h
  refine ⟨by have := h.1; rw [List.length_append]; omega, Or.inr ⟨?_, hb⟩⟩
  unfold rowB; rw [if_pos g, badR_at hb [] P 0 h1, Nat.zero_add]

set_option maxRecDepth 100000 in
set_option maxHeartbeats 8000000 in
theorem rows_law (L : List Nat) (hL : ∀ b ∈ L, b < 18446744073709551616) (hlen : L.length ≤ 9223372036854775807) (s : Int) (v : Value) (w : World) (hR : Reads .u64 w v (L.map Int.ofNat)) :
    Calls Try.prog 3 #[v, .int .i64 s] w (Ret w (.bool true)) := by
  obtain ⟨A, cA, rfl, hcA, hk⟩ := hR
  rw [List.length_map] at hcA ⊢
  obtain ⟨i0, hi, hz0, hz1, hz2⟩ := info_parts infoF64
  obtain ⟨j0, ji, jz0, jz1, jz2⟩ := info_parts infoI64
  obtain ⟨c0, hc0⟩ : ∃ c0 : Int, Scale s ∧ c0 = 0 ∨ ¬ Scale s ∧ c0 = 2 := by
    by_cases h : Scale s
    · exact ⟨0, Or.inl ⟨h, rfl⟩⟩
    · exact ⟨2, Or.inr ⟨h, rfl⟩⟩
  have WK := Lib.hid (fun W => wakes_any W)
  have SC := Lib.hid (fun W => refScale_any s W)
  have HC0 := Lib.hid hc0
  have HK := Lib.hid hk
  have HL := Lib.hid hL
  clear hk hL hc0
  go_enter Try.func3, Try.ntmps3
  go_wp2_with fail
  refine (WK.out _).mono ?_
  rintro e w0 ⟨rfl, hb⟩
  have hHeld : Keeps w [] w0 := ⟨hb, trivial⟩
  clear hb WK
  go_wp2_with fail
  refine (SC.out _).mono ?_
  rintro e w1 ⟨rfl, hw1⟩; subst w1
  go_upto_if 22 with (fail)
  go_cut [8] (fun v8 wx => v8 = .int .i64 c0 ∧ Keeps w [] wx)
  case first =>
    rcases HC0.out with ⟨g, rfl⟩ | ⟨g, rfl⟩
    · rw [decide_eq_true g]
      clear HC0 SC
      go_wp2_with fail
      go_meet
      case rel => exact ⟨rfl, hHeld⟩
    · rw [decide_eq_false g]
      clear HC0 SC
      go_wp2_with fail
      go_meet
      case rel => exact ⟨rfl, hHeld⟩
  case rest =>
    obtain ⟨rfl, hcut⟩ := hcut
    replace hHeld := hcut
    clear hcut SC
    obtain ⟨m, hm⟩ : ∃ m, m = L.take 20 := ⟨_, rfl⟩
    have HM := Lib.hid hm
    have MN := Lib.hid (show m.length = min 20 L.length by rw [hm, List.length_take])
    have MOK := Lib.hid (show ∀ b ∈ m, b < 18446744073709551616 from fun x hx => HL.out x (by rw [hm] at hx; exact List.mem_of_mem_take hx))
    have GS := Lib.hid (gone_start HC0.out)
    clear hm
    go_upto_block 0 with (fail)
    go_cut [5, 6, 7, 8] (fun v5 v6 v7 v8 wx => ∃ (K : List Int) (p : Nat) (c : Int), v7 = .int .i64 p ∧ v8 = .int .i64 c ∧ Hid (GoneR s m K p c) ∧ Hid (wx.ownsRow w.heap.size 29 1 v5 m.length (m.map fl)) ∧ Hid (wx.ownsRow w.heap.size 2 1 v6 K.length (K.map (Value.int .i64))) ∧ Keeps w [] wx)
    case first =>
      have RF := Lib.hid (fun b (h : b < 18446744073709551616) W => refFixed_any b h s W)
      go_wp2_with fail
      go_loopw [5, 6, 7, 8, 25] (fun v5 v6 v7 v8 i wr => ∃ (k : Nat) (K : List Int) (p : Nat) (c : Int), i = .int .i64 k ∧ k ≤ m.length ∧ v7 = .int .i64 p ∧ v8 = .int .i64 c ∧ Hid (GoneR s (m.take k) K p c) ∧ Hid (wr.ownsRow w.heap.size 29 1 v5 (m.take k).length ((m.take k).map fl)) ∧ Hid (wr.ownsRow w.heap.size 2 1 v6 K.length (K.map (Value.int .i64))) ∧ Keeps w [] wr) (fun _ _ _ _ i _ => m.length - (intOf i).toNat)
      case atStart => exact ⟨0, [], 0, c0, rfl, by omega, rfl, rfl, GS, Lib.hid (World.ownsRow_nil _ _ _ _), Lib.hid (World.ownsRow_nil _ _ _ _), hHeld⟩
      case round =>
        clear GS hHeld
        obtain ⟨k, K, p, c, rfl, hkm, rfl, rfl, HG, HO1, HO2, hHeld⟩ := hrel
        have ml := MN.out
        by_cases gk : k < m.length
        · obtain ⟨b, hx⟩ : ∃ b, m[k]? = some b := ⟨_, List.getElem?_eq_getElem gk⟩
          have hx2 : L[k]? = some b := by
            have := hx
            rw [HM.out, List.getElem?_take] at this
            split at this
            · exact this
            · cases this
          obtain ⟨g, off, rfl, hbw, hc1⟩ := HK.out k b (by rw [List.getElem?_map, hx2]; rfl)
          have c1 := (hHeld.1.cell (p := ⟨g, off + k, none⟩) hbw).trans hc1
          have i1 : (k : Int) < (L.length : Int) := by omega
          have i0' : (0 : Int) ≤ (k : Int) := by omega
          have i2 : ¬ (k : Int) = 20 := by omega
          have hb := MOK.out _ (List.mem_of_getElem? hx)
          have R1 := Lib.hid (RF.out b hb)
          have q0 := Lib.hid (frombits_run b)
          have ET := Lib.hid (show m.take (k + 1) = m.take k ++ [b] by obtain ⟨a1, e1⟩ := List.getElem?_eq_some_iff.1 hx; rw [List.take_succ_eq_append_getElem a1, e1])
          have LT : (m.take k).length = k := by rw [List.length_take]; omega
          have kl := HG.out.1
          rw [LT] at kl
          have hm20 : k < 20 := by omega
          clear hc1 hx hx2 hb RF ml
          go_wp2_with (first | simp only [q0.out] | (at_builtin; refine wpList_append_own _ rfl _ _ 24 rfl w.heap.size 29 i0 (.float .f64 0) 1 8 Try.underlying24 hi hz0 hz1 hz2 rfl (by decide) _ _ _ rfl (HO1.out.alloc _) ⟨wr.heap.size, 0, none⟩ 1 1 [fl b] rfl rfl ?c1 ?c2 ?c3 ?c4 ?c5 ?_))
          case c1 =>
            intro j u hj
            match j, hj with
            | 0, hj => simp at hj; subst hj; simp [Addr.add, fl]
          case c2 => intro u hu; simp at hu; subst hu; rfl
          case c3 => unfold maxLen; omega
          case c4 => omega
          case c5 => have := hHeld.1.size; simp; omega
          intro v' w2 hown' hgrow _
          have hK3 := keeps_grows (hHeld.alloc _) (HO1.out.alloc _) (Nat.le_refl _) (by intro q hq; simp at hq) hgrow
          have HP := Lib.hid (rows_other (HO2.out.alloc _) (HO1.out.alloc _) (by decide) hgrow)
          have HQ : Hid (w2.ownsRow w.heap.size 29 1 v' (m.take (k + 1)).length ((m.take (k + 1)).map fl)) := Lib.hid (by rw [ET.out]; simpa using hown')
          clear hown' hgrow HO1 HO2 hHeld
          by_cases gc : c = 0
          · subst gc
            go_wp2_with fail
            refine (R1.out _).mono ?_
            rintro e w3 ⟨rfl, hb3⟩
            replace HP := Lib.hid (owns_below HP.out hb3)
            replace HQ := Lib.hid (owns_below HQ.out hb3)
            replace hK3 := hK3.next hb3
            clear hb3
            by_cases ge : codeF b s = 0
            · have HG2 := Lib.hid (gone_good HG.out ge)
              rw [← ET.out] at HG2
              rw [ge]
              clear HG R1
              generalize valF b s = z at *
              go_wp2_with (at_builtin; refine wpList_append_own _ rfl _ _ 25 rfl w.heap.size 2 j0 (.int .i64 0) 1 8 Try.underlying25 ji jz0 jz1 jz2 rfl (by decide) _ _ _ rfl (HP.out.alloc _) ⟨w3.heap.size, 0, none⟩ 1 1 [.int .i64 z] rfl rfl ?d1 ?d2 ?d3 ?d4 ?d5 ?_)
              case d1 =>
                intro j u hj
                match j, hj with
                | 0, hj => simp at hj; subst hj; simp [Addr.add]
              case d2 => intro u hu; simp at hu; subst hu; rfl
              case d3 => unfold maxLen; omega
              case d4 => omega
              case d5 => have := hK3.1.size; simp; omega
              intro v6 w4 hown' hgrow _
              have hK4 := keeps_grows (hK3.alloc _) (HP.out.alloc _) (Nat.le_refl _) (by intro q hq; simp at hq) hgrow
              have HQ2 := Lib.hid (rows_other (HQ.out.alloc _) (HP.out.alloc _) (by decide) hgrow)
              have HP2 : Hid (w4.ownsRow w.heap.size 2 1 v6 (K ++ [z]).length ((K ++ [z]).map (Value.int .i64))) := Lib.hid (by simpa using hown')
              clear hown' hgrow HP HQ hK3
              go_wp2_with fail
              go_roundw
              case rel => exact ⟨k + 1, _, p, 0, by simp, by omega, rfl, rfl, HG2, HQ2, HP2, hK4⟩
              case measure => simp [intOf]; omega
            · have HG2 := Lib.hid (gone_bad HG.out ge)
              rw [← ET.out, LT] at HG2
              have g1 : (codeF b s == 0) = false := by simpa using ge
              have g2 : (codeF b s != 0) = true := by simpa using ge
              clear HG R1
              generalize valF b s = z at *
              generalize codeF b s = d at *
              go_wp2_with fail
              go_roundw
              case rel => exact ⟨k + 1, K, k, d, by simp, by omega, rfl, rfl, HG2, HQ, HP, hK3⟩
              case measure => simp [intOf]; omega
          · have HG2 := Lib.hid (gone_late (b := b) HG.out gc)
            rw [← ET.out] at HG2
            have g1 : (c == 0) = false := by simpa using gc
            have g2 : (c != 0) = true := by simpa using gc
            clear HG R1
            go_wp2_with fail
            go_roundw
            case rel => exact ⟨k + 1, K, p, c, by simp, by omega, rfl, rfl, HG2, HQ, HP, hK3⟩
            case measure => simp [intOf]; omega
        · have EK : k = m.length := by omega
          subst EK
          rw [List.take_length] at HG HO1
          by_cases g2 : m.length < L.length
          · have e20 : m.length = 20 := by omega
            obtain ⟨b, hx⟩ : ∃ b, L[m.length]? = some b := ⟨_, List.getElem?_eq_getElem g2⟩
            obtain ⟨g, off, rfl, hbw, hc1⟩ := HK.out m.length b (by rw [List.getElem?_map, hx]; rfl)
            have c1 := (hHeld.1.cell (p := ⟨g, off + m.length, none⟩) hbw).trans hc1
            have i1 : ((m.length : Nat) : Int) < (L.length : Int) := by omega
            have i0' : (0 : Int) ≤ (m.length : Int) := by omega
            have i2 : ((m.length : Nat) : Int) = 20 := by omega
            have i3 : (20 : Int) < (L.length : Int) := by omega
            rw [e20] at c1
            clear RF ml hx hc1 gk
            go_wp2_with fail
            go_meet
            case rel => exact ⟨K, p, c, rfl, rfl, HG, HO1, HO2, hHeld⟩
          · have i1 : ¬ ((m.length : Nat) : Int) < (L.length : Int) := by omega
            clear RF
            go_wp2_with fail
            go_meet
            case rel => exact ⟨K, p, c, rfl, rfl, HG, HO1, HO2, hHeld⟩
    case rest =>
      obtain ⟨K, p, c, rfl, rfl, HG, HO1, HO2, hK⟩ := hcut
      have HF := Lib.hid (readsF_own HO1.out)
      have RA := Lib.hid (fun u W h => row_any m MOK.out (by have := MN.out; omega) s u W h)
      clear hHeld GS HK HL
      rcases HG.out with ⟨hkl, ⟨g1, rfl, rfl, rfl⟩ | ⟨g1, g2⟩⟩
      · have HB := Lib.hid g1
        have LV : (valsF s m).length = m.length := by unfold valsF; rw [List.length_map]
        have HW := Lib.hid (reads_own HO2.out)
        clear HG g1 hkl HO1 HO2
        obtain ⟨A6, c6, rfl, h6, hk6⟩ := HW.out
        have HK6 := Lib.hid hk6
        clear hk6 HW
        rw [LV]
        go_wp2_with fail
        refine (RA.out _ _ HF.out).mono ?_
        rintro e w2 ⟨u, p, c, rfl, hcase, hb⟩
        obtain ⟨rfl, rfl, hr⟩ : c = 0 ∧ p = 0 ∧ Reads .i64 w2 u (valsF s m) := by
          rcases hcase with ⟨_, h2, h3, h4⟩ | ⟨h1, _⟩
          · exact ⟨h2, h3, h4⟩
          · rw [HB.out] at h1; cases h1
        obtain ⟨A7, c7, rfl, h7, hk7⟩ := hr
        have HK7 := Lib.hid hk7
        have HE := Lib.hid hb
        clear hk7 hcase hb RA HF
        rw [LV]
        go_wp2_with fail
        go_loopw [80] (fun i wr => ∃ k : Nat, i = .int .i64 k ∧ k ≤ m.length ∧ wr = w2) (fun i _ => m.length - (intOf i).toNat)
        case atStart => exact ⟨0, rfl, by omega, rfl⟩
        case round =>
          obtain ⟨k, rfl, hkm, rfl⟩ := hrel
          by_cases gk : k < m.length
          · obtain ⟨z, hz⟩ : ∃ z, (valsF s m)[k]? = some z := ⟨_, List.getElem?_eq_getElem (by omega)⟩
            obtain ⟨b6, o6, rfl, hb6, e6⟩ := HK6.out k z hz
            obtain ⟨b7, o7, rfl, hb7, c7⟩ := HK7.out k z hz
            have c6 := (HE.out.cell (p := ⟨b6, o6 + k, none⟩) (by exact hb6)).trans e6
            have i1 : (k : Int) < (m.length : Int) := by omega
            have i0' : (0 : Int) ≤ (k : Int) := by omega
            have ml : m.length ≤ 20 := by have := MN.out; omega
            clear hz e6 LV
            go_wp2_with fail
            go_roundw
            case rel => exact ⟨k + 1, by simp, by omega, by first | rfl | trivial⟩
            case measure => simp [intOf]; omega
          · have i1 : ¬ (k : Int) < (m.length : Int) := by omega
            go_wp2_with fail
            go_ret
            exact ⟨rfl, under hK.1 HE.out⟩
      · have g3 : (c == 0) = false := by simpa using g2
        have g4 : (c != 0) = true := by simpa using g2
        have HB := Lib.hid g1
        clear HG g1 hkl HO1 HO2
        go_wp2_with fail
        refine (RA.out _ _ HF.out).mono ?_
        rintro e w2 ⟨u, p', c', rfl, hcase, hb⟩
        obtain ⟨rfl, rfl, rfl⟩ : c' = c ∧ p' = p ∧ u = .slice none 0 0 := by
          rcases hcase with ⟨h1, _⟩ | ⟨h1, h2⟩
          · rw [HB.out] at h1; cases h1
          · rw [HB.out] at h1
            cases h1
            exact ⟨rfl, rfl, h2⟩
        have HE := Lib.hid hb
        clear hcase hb RA HF HB
        go_wp2_with fail
        go_loopw [80] (fun i wr => i = .int .i64 0 ∧ wr = w2) (fun _ _ => 0)
        case atStart => exact ⟨rfl, rfl⟩
        case round =>
          obtain ⟨rfl, rfl⟩ := hrel
          go_wp2_with fail
          go_ret
          exact ⟨rfl, under hK.1 HE.out⟩
theorem rows_any (l : List Int) (hl : ∀ z ∈ l, 0 ≤ z ∧ z < 18446744073709551616) (hlen : l.length ≤ 9223372036854775807) (s : Int) (v : Value) (w : World) (hR : Reads .u64 w v l) :
    Calls Try.prog 3 #[v, .int .i64 s] w (Ret w (.bool true)) := by
  have e : (l.map Int.toNat).map Int.ofNat = l := by
    rw [List.map_map]
    refine (List.map_congr_left fun z hz => ?_).trans (List.map_id l)
    have := hl z hz
    simp only [Function.comp, Int.ofNat_eq_natCast, id]
    omega
  refine rows_law (l.map Int.toNat) (fun b hb => ?_) (by rw [List.length_map]; exact hlen) s v w (by rw [e]; exact hR)
  obtain ⟨z, hz, rfl⟩ := List.mem_map.1 hb
  have := hl z hz
  omega
end Go.Proofs.Ytinppckjolkhpaa
