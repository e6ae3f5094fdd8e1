/-
  The document's own answer: a number's text. Conditions: those written at each fact.
-/
import Derived.Test.YtinppckjolkhpaaDoorTextM
import Derived.Test.YtinppckjolkhpaaDoorIs
import Derived.Test.YtinppckjolkhpaaDoorText
import Derived.Laws.BytesString
import Derived.Laws.Cells
namespace Go.Proofs.YtinppckjolkhpaaDoor
open Go.RowKit

def slen : Value → Nat | .string s => s.size | _ => 0
theorem Num.alloc2 {w W : World} {L : List (Nat × Nat × Value)} {v : Value} {x : Nat} {o : Obj} (h : Num W v x) (_ : Keeps w L (W.alloc o)) : Num (W.alloc o) v x := h.below (below_alloc W o)
theorem numZ_open {w : World} {b : Bool} {A : Option Addr} {n c : Nat} {z : Int} (h : NumZ w (.agg #[.bool b, .slice A n c]) z) : b = decide (z < 0) ∧ Num w (.slice A n c) z.natAbs ∧ n = (sizeL z.natAbs).length := by
  obtain ⟨s, e, hn⟩ := h
  simp only [Value.agg.injEq, Array.mk.injEq, List.cons.injEq, Value.bool.injEq, and_true] at e
  obtain ⟨rfl, rfl⟩ := e
  refine ⟨rfl, hn, ?_⟩
  obtain ⟨A', c', e, _⟩ := hn
  simp only [Value.slice.injEq] at e
  exact e.2.1
theorem conv1 (v : Int) (W : World) : (convert 90 9 (.slice (some ⟨W.heap.size, 0, none⟩) 1 1)).run Tryd.prog (W.alloc (.cells #[.int .u8 v] 5)) = .ok (strV [UInt8.ofNat v.toNat]) (W.alloc (.cells #[.int .u8 v] 5)) := by
  rw [run_convert_bytes_string _ _ _ _ _ _ _ Tryd.underlying90 Tryd.underlying5 Tryd.underlying9]
  have hl := run_loadCells_list (P := Tryd.prog) (w := W.alloc (.cells #[.int .u8 v] 5)) ⟨W.heap.size, 0, none⟩ [.int .u8 v] one_cell
  rw [run_bytesToString _ _ 1 1 [v] hl]
  rfl
theorem bytes_size (l : List UInt8) : (⟨l.toArray⟩ : ByteArray).size = l.length := by show l.toArray.size = l.length; simp
/-- What is told so far, of x, and what is left. -/
def Told (x r : Nat) (L : List UInt8) : Prop := (r ≠ 0 → Lib.decDigits x = Lib.decDigits r ++ L ∧ r * 10 ^ L.length ≤ x) ∧ (r = 0 → (x = 0 → L = []) ∧ (x ≠ 0 → Lib.decDigits x = L))
theorem told_start (x : Nat) : Told x x [] := ⟨fun _ => ⟨by simp, by simp⟩, fun h => ⟨fun _ => rfl, fun h' => absurd h h'⟩⟩
theorem told_next {x r : Nat} {L : List UInt8} (h : Told x r L) (hr : r ≠ 0) : Told x (r / 10) (UInt8.ofNat (48 + r % 10) :: L) := by
  obtain ⟨h1, h2⟩ := h.1 hr
  constructor
  · intro h10
    have g : ¬ r < 10 := by omega
    rw [Lib.decDigits.eq_def r, dif_neg g] at h1
    refine ⟨by rw [h1]; simp, ?_⟩
    rw [List.length_cons, Nat.pow_succ]
    calc r / 10 * (10 ^ L.length * 10) = r / 10 * 10 * 10 ^ L.length := by rw [Nat.mul_comm (10 ^ L.length), Nat.mul_assoc]
      _ ≤ r * 10 ^ L.length := Nat.mul_le_mul_right _ (by omega)
      _ ≤ x := h2
  · intro h10
    have g : r < 10 := by omega
    refine ⟨fun hx => ?_, fun _ => ?_⟩
    · subst hx
      have : 0 < 10 ^ L.length := Nat.pow_pos (by decide)
      have : 1 * 10 ^ L.length ≤ r * 10 ^ L.length := Nat.mul_le_mul_right _ (by omega)
      omega
    · rw [h1, Lib.decDigits_one g, Nat.mod_eq_of_lt g]
      rfl
theorem told_len {x r : Nat} {L : List UInt8} (h : Told x r L) (hr : r ≠ 0) (hx : x < 10 ^ 60) : L.length < 60 := by
  obtain ⟨_, h2⟩ := h.1 hr
  by_cases g : L.length < 60
  · exact g
  · have h3 : 10 ^ 60 ≤ 10 ^ L.length := Nat.pow_le_pow_right (by decide) (by omega)
    have h4 : 1 * 10 ^ L.length ≤ r * 10 ^ L.length := Nat.mul_le_mul_right _ (by omega)
    omega
set_option maxRecDepth 100000 in
set_option maxHeartbeats 32000000 in
theorem text_walk (p : Bool) (A0 : Option Addr) (n0 c0 x : Nat) (R : List UInt8) (hx : x < 10 ^ 60) (hxl : (sizeL x).length ≤ 3900) (w : World) (hN : Num w (.slice A0 n0 c0) x)
    (hR : x = 0 ∧ p = false ∧ R = [48] ∨ x ≠ 0 ∧ R = (if p then [45] else []) ++ Lib.decDigits x) :
    Calls Tryd.prog 28 #[.agg #[.bool p, .slice A0 n0 c0]] w (Ret w (strV R)) := by
  have M0 := Lib.hid (fun W (k : Below w.heap.size w W) => made2_any (x : Int) false x (Int.natAbs_natCast x) (by simp) _ W (hN.below k))
  have SZ := Lib.hid (fun W => (show Calls Tryd.prog 33 #[.int .u64 10] W (RetN W 10) from (size_any 10 (by omega) W).mono fun _ _ (h : Made W _ _ _) => retN_of h.gave))
  have MT := Lib.hid (fun (v : Value) (W : World) (k : Num W v 10) => (show Calls Tryd.prog 35 #[.bool false, v] W (RetZ W 10) from made2_any 10 false 10 rfl (by decide) v W k))
  have DV := Lib.hid (fun (r : Nat) (hr : (sizeL r).length ≤ 3900) u u' W k (k' : NumZ W u' 10) => (show Calls Tryd.prog 26 #[u, u'] W (RetZZ W ((r : Int) / 10) ((r : Int) % 10)) from divZ_any (r : Int) 10 (by omega) (by rw [Int.natAbs_natCast]; omega) (by have := sizeL_length 64 10 (by omega); omega) u u' W k k'))
  have WD := Lib.hid (fun (d : Nat) (hd : d < 10) v W (k : Num W v d) => (show Calls Tryd.prog 45 #[v, .int .i64 0] W (Ret W (.int .u64 (d : Int))) from by
    have := word_any d 0 (by omega) v W k (Nat.le_trans (sizeL_length 64 d (by omega)) (by omega))
    rwa [show d / 2 ^ 0 % 18446744073709551616 = d by omega] at this))
  replace hR := Lib.hid hR
  clear hN
  go_enter Tryd.func28, Tryd.ntmps28
  go_wp2_with fail
  refine (M0.out _ (by go_grown)).mono ?_
  rintro e w1 ⟨b1, A1, n1, c1, rfl, hb, z1⟩
  have hHeld : Keeps w [(w.heap.size, 0, .bool p), (w.heap.size, 1, .slice A0 n0 c0)] w1 := Keeps.next (by refine ⟨by go_grown, ?_⟩; simp [Cells, go_sem]) hb
  have HZ0 := Lib.hid (z1.below (below_alloc w1 (.cells #[.bool b1, .slice A1 n1 c1] 28)))
  have hK := (hHeld.alloc (.cells #[.bool b1, .slice A1 n1 c1] 28)).app (newK2 (hHeld.alloc (.cells #[.bool b1, .slice A1 n1 c1] 28)))
  have hz2 : w.heap.size < w1.heap.size := hHeld.2.1.1
  clear hb z1 hHeld
  go_wp2_with fail
  go_loopw [3] (fun s3 wr => ∃ (r : Nat) (b : Bool) (A : Option Addr) (n c : Nat) (L : List UInt8), s3 = strV L ∧ Hid (Told x r L) ∧ r ≤ x ∧ L.length ≤ 60 ∧ Hid (NumZ wr (.agg #[.bool b, .slice A n c]) (r : Int)) ∧ Keeps w [(w.heap.size, 0, .bool p), (w.heap.size, 1, .slice A0 n0 c0), (w1.heap.size, 0, .bool b), (w1.heap.size, 1, .slice A n c)] wr) (fun s3 _ => 100 - slen s3)
  case atStart => exact ⟨x, b1, A1, n1, c1, [], rfl, Lib.hid (told_start x), Nat.le_refl _, by simp, HZ0, hK⟩
  case round =>
    obtain ⟨r, b, A, n, c, L, rfl, HT, hrx, hL, HZ, hHeld⟩ := hrel
    obtain ⟨⟨kz0, kc0, kf0⟩, ⟨kz1, kc1, kf1⟩, ⟨kz2, kc2, kf2⟩, ⟨kz3, kc3, kf3⟩, _⟩ := hHeld.2
    have hn : n = (sizeL r).length := by have := (numZ_open HZ.out).2.2; rwa [Int.natAbs_natCast] at this
    by_cases hr : r = 0
    · have n00 : n = 0 := by
        rw [hn, hr, sizeL_zero]
        rfl
      subst n00
      have hF := HT.out.2 hr
      clear hn hr hrx HZ HT
      have hR2 := hR.out
      clear hR
      rcases hR2 with ⟨rfl, rfl, rfl⟩ | ⟨hx0, hR2⟩
      · have hLn := hF.1 rfl
        subst hLn
        clear hF hL
        go_wp2_with fail
        go_ret
        exact ⟨rfl, hHeld.1⟩
      · have hLx := hF.2 hx0
        rw [hLx] at hR2
        have hne : L.isEmpty = false := by
          have : Lib.decDigits x ≠ [] := by
            intro h
            have h2 := Lib.decDigits_length x
            rw [h] at h2
            have := Lib.nDigits_pos x
            simp at h2
            omega
          rw [hLx] at this
          simpa using this
        have HR2 := Lib.hid hR2
        clear hF hLx hR2
        cases p
        · go_wp2_with fail
          go_ret
          exact ⟨by rw [HR2.out]; simp, hHeld.1⟩
        · have hcat : ¬ 9223372036854775807 < 1 + L.length := by omega
          go_wp2_with fail
          go_ret
          exact ⟨by rw [HR2.out]; simp [str_append], hHeld.1⟩
    · have hpos : 0 < (sizeL r).length := size_none.2 hr
      have hlen := told_len HT.out hr hx
      have lr : (sizeL r).length ≤ 3900 := Nat.le_trans (size_mono hrx) hxl
      have t1 : (0 : Int) < (n : Int) := by omega
      have HT2 := Lib.hid (told_next HT.out hr)
      have DR := Lib.hid (DV.out r lr)
      have WR := Lib.hid (WD.out (r % 10) (by omega))
      have hr10 : r / 10 ≤ x := by omega
      clear hpos lr hr hn
      go_upto_region 4 with (fail)
      have hHs : Keeps wr [(w.heap.size, 0, .bool p), (w.heap.size, 1, .slice A0 n0 c0), (w1.heap.size, 0, .bool b), (w1.heap.size, 1, .slice A n c)] wr := ⟨Below.refl _ _, hHeld.2⟩
      go_cut [5, 6] (fun s5 s6 wx => ∃ (h : Nat) (b1 : Bool) (A1 : Option Addr) (m1 c1 : Nat) (h' : Nat) (b1' : Bool) (A1' : Option Addr) (m1' c1' : Nat), s5 = .pointer (some ⟨h, 0, none⟩) ∧ s6 = .pointer (some ⟨h', 0, none⟩) ∧ Hid (NumZ wx (.agg #[.bool b1, .slice A1 m1 c1]) ((r : Int) / 10)) ∧ Hid (NumZ wx (.agg #[.bool b1', .slice A1' m1' c1']) ((r : Int) % 10)) ∧ h ≠ w1.heap.size ∧ Keeps wr [(h, 0, .bool b1), (h, 1, .slice A1 m1 c1), (h', 0, .bool b1'), (h', 1, .slice A1' m1' c1'), (w.heap.size, 0, .bool p), (w.heap.size, 1, .slice A0 n0 c0), (w1.heap.size, 0, .bool b), (w1.heap.size, 1, .slice A n c)] wx)
      case first =>
        refine region_keeps (w0 := wr) (L := [(w.heap.size, 0, .bool p), (w.heap.size, 1, .slice A0 n0 c0), (w1.heap.size, 0, .bool b), (w1.heap.size, 1, .slice A n c)]) (by kernel_rfl) hHs (fun hHeld0 => ?_)
        refine wpAnyH_take (i := 0) (oi := ⟨some 15, _, _, _, _, _⟩) (v := ?_) rfl (by kernel_rfl) (by kernel_rfl) (by kernel_rfl) (fun _ _ _ h => h) (Or.inl ⟨by rfl, ?_⟩) (by assumption) ?_
        rotate_left
        · intro wq hSw; obtain ⟨⟨qz0, qc0, qf0⟩, ⟨qz1, qc1, qf1⟩, ⟨qz2, qc2, qf2⟩, ⟨qz3, qc3, qf3⟩, _⟩ := hSw.2; go_simp; (try with_reducible rfl)
        try simp only [Act.put, List.setIfInBounds_toArray, List.set_cons_zero, List.set_cons_succ]
        refine wpAnyH_ready (rs := [1, 7, 8]) (by kernel_rfl) (by simp) ?_
        refine AllReadyH.cons (o := ⟨some 16, _, _, _, _, _⟩) rfl (fun K hK => ?_) ?_
        go_simp
        (first | ((with_reducible refine (SZ.out _).mono ?_); rintro e ws ⟨A2, n2, c2, rfl, hb, hn2⟩) | ((with_reducible refine (MT.out _ _ hn2).mono ?_); rintro e wt ⟨bt, At, nt, ct, rfl, hb, zt⟩) | ((with_reducible refine (DR.out _ _ _ (HZ.out.below (by first | exact hHeld0.bel | exact hHeld1.bel | exact hHeld2.bel | exact hHeld3.bel | exact hHeld4.bel | exact hHeld5.bel | exact hHeld6.bel | exact hHeld7.bel | exact hHeld8.bel | exact hHeld9.bel | exact hHeld10.bel | exact hHeld11.bel | exact hHeld12.bel | exact hHeld13.bel | exact hHeld14.bel | exact hHeld15.bel | exact hHeld16.bel | exact hHeld17.bel | exact hHeld18.bel | exact hHeld19.bel | exact hHeld20.bel | exact hHeld21.bel | exact hHeld22.bel | exact hHeld23.bel | exact hHeld24.bel | exact hHeld25.bel | exact hHeld26.bel | exact hHeld27.bel | exact hHeld28.bel | exact hHeld29.bel | exact hHeld30.bel | exact hHeld31.bel | exact hHeld32.bel | exact hHeld33.bel | exact hHeld34.bel | exact hHeld35.bel | exact hHeld36.bel | exact hHeld37.bel | exact hHeld38.bel | exact hHeld39.bel | exact hHeld40.bel | exact hHeld41.bel | exact hHeld42.bel | exact hHeld43.bel | exact hHeld44.bel | exact hHeld45.bel | exact hHeld46.bel | exact hHeld47.bel | exact hHeld48.bel | exact hHeld49.bel | exact hHeld50.bel | exact hHeld51.bel | exact hHeld52.bel | exact hHeld53.bel | exact hHeld54.bel | exact hHeld55.bel | exact hHeld56.bel | exact hHeld57.bel | exact hHeld58.bel | exact hHeld59.bel | exact hHeld60.bel | exact hHeld61.bel | exact hHeld62.bel | exact hHeld63.bel | exact hHeld64.bel | exact hHeld65.bel | exact hHeld66.bel | exact hHeld67.bel | exact hHeld68.bel | exact hHeld69.bel | exact hHeld70.bel | exact hHeld71.bel | exact hHeld72.bel | exact hHeld73.bel | exact hHeld74.bel | exact hHeld75.bel | exact hHeld76.bel | exact hHeld77.bel | exact hHeld78.bel | exact hHeld79.bel | exact hHeld80.bel | exact hHeld81.bel | exact hHeld82.bel | exact hHeld83.bel | exact hHeld84.bel | exact hHeld85.bel | exact hHeld86.bel | exact hHeld87.bel | exact hHeld88.bel | exact hHeld89.bel | exact hHeld90.bel | exact hHeld91.bel | exact hHeld92.bel | exact hHeld93.bel | exact hHeld94.bel | exact hHeld95.bel | exact hHeld96.bel | exact hHeld97.bel | exact hHeld98.bel | exact hHeld99.bel | exact hHeld100.bel | exact hHeld101.bel | exact hHeld102.bel | exact hHeld103.bel | exact hHeld104.bel | exact hHeld105.bel | exact hHeld106.bel | exact hHeld107.bel | exact hHeld108.bel | exact hHeld109.bel | exact hHeld110.bel | exact hHeld111.bel | exact hHeld112.bel | exact hHeld113.bel | exact hHeld114.bel | exact hHeld115.bel | exact hHeld116.bel | exact hHeld117.bel | exact hHeld118.bel | exact hHeld119.bel | exact hHeld120.bel | exact hHeld121.bel | exact hHeld122.bel | exact hHeld123.bel | exact hHeld124.bel | exact hHeld125.bel | exact hHeld126.bel | exact hHeld127.bel | exact hHeld128.bel | exact hHeld129.bel)) zt).mono ?_); rintro e wd ⟨bq, Aq, nq, cq, br, Ar, nr, cr, rfl, hb, zq, zr⟩))
        refine hK.out _ _ (hHeld0.next hb) (fun hHeld1 => ?_)
        clear hK K
        try clear hb
        try simp only [Act.put, List.setIfInBounds_toArray, List.set_cons_zero, List.set_cons_succ]
        refine wpAnyH_ready (rs := [2, 7, 8]) (by kernel_rfl) (by simp) ?_
        refine AllReadyH.cons (o := ⟨some 17, _, _, _, _, _⟩) rfl (fun K hK => ?_) ?_
        go_simp
        (first | ((with_reducible refine (SZ.out _).mono ?_); rintro e ws ⟨A2, n2, c2, rfl, hb, hn2⟩) | ((with_reducible refine (MT.out _ _ hn2).mono ?_); rintro e wt ⟨bt, At, nt, ct, rfl, hb, zt⟩) | ((with_reducible refine (DR.out _ _ _ (HZ.out.below (by first | exact hHeld0.bel | exact hHeld1.bel | exact hHeld2.bel | exact hHeld3.bel | exact hHeld4.bel | exact hHeld5.bel | exact hHeld6.bel | exact hHeld7.bel | exact hHeld8.bel | exact hHeld9.bel | exact hHeld10.bel | exact hHeld11.bel | exact hHeld12.bel | exact hHeld13.bel | exact hHeld14.bel | exact hHeld15.bel | exact hHeld16.bel | exact hHeld17.bel | exact hHeld18.bel | exact hHeld19.bel | exact hHeld20.bel | exact hHeld21.bel | exact hHeld22.bel | exact hHeld23.bel | exact hHeld24.bel | exact hHeld25.bel | exact hHeld26.bel | exact hHeld27.bel | exact hHeld28.bel | exact hHeld29.bel | exact hHeld30.bel | exact hHeld31.bel | exact hHeld32.bel | exact hHeld33.bel | exact hHeld34.bel | exact hHeld35.bel | exact hHeld36.bel | exact hHeld37.bel | exact hHeld38.bel | exact hHeld39.bel | exact hHeld40.bel | exact hHeld41.bel | exact hHeld42.bel | exact hHeld43.bel | exact hHeld44.bel | exact hHeld45.bel | exact hHeld46.bel | exact hHeld47.bel | exact hHeld48.bel | exact hHeld49.bel | exact hHeld50.bel | exact hHeld51.bel | exact hHeld52.bel | exact hHeld53.bel | exact hHeld54.bel | exact hHeld55.bel | exact hHeld56.bel | exact hHeld57.bel | exact hHeld58.bel | exact hHeld59.bel | exact hHeld60.bel | exact hHeld61.bel | exact hHeld62.bel | exact hHeld63.bel | exact hHeld64.bel | exact hHeld65.bel | exact hHeld66.bel | exact hHeld67.bel | exact hHeld68.bel | exact hHeld69.bel | exact hHeld70.bel | exact hHeld71.bel | exact hHeld72.bel | exact hHeld73.bel | exact hHeld74.bel | exact hHeld75.bel | exact hHeld76.bel | exact hHeld77.bel | exact hHeld78.bel | exact hHeld79.bel | exact hHeld80.bel | exact hHeld81.bel | exact hHeld82.bel | exact hHeld83.bel | exact hHeld84.bel | exact hHeld85.bel | exact hHeld86.bel | exact hHeld87.bel | exact hHeld88.bel | exact hHeld89.bel | exact hHeld90.bel | exact hHeld91.bel | exact hHeld92.bel | exact hHeld93.bel | exact hHeld94.bel | exact hHeld95.bel | exact hHeld96.bel | exact hHeld97.bel | exact hHeld98.bel | exact hHeld99.bel | exact hHeld100.bel | exact hHeld101.bel | exact hHeld102.bel | exact hHeld103.bel | exact hHeld104.bel | exact hHeld105.bel | exact hHeld106.bel | exact hHeld107.bel | exact hHeld108.bel | exact hHeld109.bel | exact hHeld110.bel | exact hHeld111.bel | exact hHeld112.bel | exact hHeld113.bel | exact hHeld114.bel | exact hHeld115.bel | exact hHeld116.bel | exact hHeld117.bel | exact hHeld118.bel | exact hHeld119.bel | exact hHeld120.bel | exact hHeld121.bel | exact hHeld122.bel | exact hHeld123.bel | exact hHeld124.bel | exact hHeld125.bel | exact hHeld126.bel | exact hHeld127.bel | exact hHeld128.bel | exact hHeld129.bel)) zt).mono ?_); rintro e wd ⟨bq, Aq, nq, cq, br, Ar, nr, cr, rfl, hb, zq, zr⟩))
        refine hK.out _ _ (hHeld1.next hb) (fun hHeld2 => ?_)
        (try replace hn2 := hn2.below hb)
        clear hK K
        try clear hb
        try simp only [Act.put, List.setIfInBounds_toArray, List.set_cons_zero, List.set_cons_succ]
        refine wpAnyH_ready (rs := [3, 7, 8]) (by kernel_rfl) (by simp) ?_
        refine AllReadyH.cons (o := ⟨some 18, _, _, _, _, _⟩) rfl (fun K hK => ?_) ?_
        go_simp
        (first | ((with_reducible refine (SZ.out _).mono ?_); rintro e ws ⟨A2, n2, c2, rfl, hb, hn2⟩) | ((with_reducible refine (MT.out _ _ hn2).mono ?_); rintro e wt ⟨bt, At, nt, ct, rfl, hb, zt⟩) | ((with_reducible refine (DR.out _ _ _ (HZ.out.below (by first | exact hHeld0.bel | exact hHeld1.bel | exact hHeld2.bel | exact hHeld3.bel | exact hHeld4.bel | exact hHeld5.bel | exact hHeld6.bel | exact hHeld7.bel | exact hHeld8.bel | exact hHeld9.bel | exact hHeld10.bel | exact hHeld11.bel | exact hHeld12.bel | exact hHeld13.bel | exact hHeld14.bel | exact hHeld15.bel | exact hHeld16.bel | exact hHeld17.bel | exact hHeld18.bel | exact hHeld19.bel | exact hHeld20.bel | exact hHeld21.bel | exact hHeld22.bel | exact hHeld23.bel | exact hHeld24.bel | exact hHeld25.bel | exact hHeld26.bel | exact hHeld27.bel | exact hHeld28.bel | exact hHeld29.bel | exact hHeld30.bel | exact hHeld31.bel | exact hHeld32.bel | exact hHeld33.bel | exact hHeld34.bel | exact hHeld35.bel | exact hHeld36.bel | exact hHeld37.bel | exact hHeld38.bel | exact hHeld39.bel | exact hHeld40.bel | exact hHeld41.bel | exact hHeld42.bel | exact hHeld43.bel | exact hHeld44.bel | exact hHeld45.bel | exact hHeld46.bel | exact hHeld47.bel | exact hHeld48.bel | exact hHeld49.bel | exact hHeld50.bel | exact hHeld51.bel | exact hHeld52.bel | exact hHeld53.bel | exact hHeld54.bel | exact hHeld55.bel | exact hHeld56.bel | exact hHeld57.bel | exact hHeld58.bel | exact hHeld59.bel | exact hHeld60.bel | exact hHeld61.bel | exact hHeld62.bel | exact hHeld63.bel | exact hHeld64.bel | exact hHeld65.bel | exact hHeld66.bel | exact hHeld67.bel | exact hHeld68.bel | exact hHeld69.bel | exact hHeld70.bel | exact hHeld71.bel | exact hHeld72.bel | exact hHeld73.bel | exact hHeld74.bel | exact hHeld75.bel | exact hHeld76.bel | exact hHeld77.bel | exact hHeld78.bel | exact hHeld79.bel | exact hHeld80.bel | exact hHeld81.bel | exact hHeld82.bel | exact hHeld83.bel | exact hHeld84.bel | exact hHeld85.bel | exact hHeld86.bel | exact hHeld87.bel | exact hHeld88.bel | exact hHeld89.bel | exact hHeld90.bel | exact hHeld91.bel | exact hHeld92.bel | exact hHeld93.bel | exact hHeld94.bel | exact hHeld95.bel | exact hHeld96.bel | exact hHeld97.bel | exact hHeld98.bel | exact hHeld99.bel | exact hHeld100.bel | exact hHeld101.bel | exact hHeld102.bel | exact hHeld103.bel | exact hHeld104.bel | exact hHeld105.bel | exact hHeld106.bel | exact hHeld107.bel | exact hHeld108.bel | exact hHeld109.bel | exact hHeld110.bel | exact hHeld111.bel | exact hHeld112.bel | exact hHeld113.bel | exact hHeld114.bel | exact hHeld115.bel | exact hHeld116.bel | exact hHeld117.bel | exact hHeld118.bel | exact hHeld119.bel | exact hHeld120.bel | exact hHeld121.bel | exact hHeld122.bel | exact hHeld123.bel | exact hHeld124.bel | exact hHeld125.bel | exact hHeld126.bel | exact hHeld127.bel | exact hHeld128.bel | exact hHeld129.bel)) zt).mono ?_); rintro e wd ⟨bq, Aq, nq, cq, br, Ar, nr, cr, rfl, hb, zq, zr⟩))
        refine hK.out _ _ (hHeld2.next hb) (fun hHeld3 => ?_)
        (try replace zt := zt.below hb)
        clear hK K
        try clear hb
        try simp only [Act.put, List.setIfInBounds_toArray, List.set_cons_zero, List.set_cons_succ]
        refine wpAnyH_take (i := 4) (oi := ⟨some 14, _, _, _, _, _⟩) (v := ?_) rfl (by kernel_rfl) (by kernel_rfl) (by kernel_rfl) (fun _ _ _ h => h) (Or.inl ⟨by rfl, ?_⟩) (by assumption) ?_
        rotate_left
        · intro wq hSw; go_simp; (try with_reducible rfl)
        try simp only [Act.put, List.setIfInBounds_toArray, List.set_cons_zero, List.set_cons_succ]
        refine wpAnyH_take (i := 5) (oi := ⟨some 19, _, _, _, _, _⟩) (v := ?_) rfl (by kernel_rfl) (by kernel_rfl) (by kernel_rfl) (fun _ _ _ h => h) (Or.inl ⟨by rfl, ?_⟩) (by assumption) ?_
        rotate_left
        · intro wq hSw; go_simp; (try with_reducible rfl)
        try simp only [Act.put, List.setIfInBounds_toArray, List.set_cons_zero, List.set_cons_succ]
        refine wpAnyH_take (i := 6) (oi := ⟨some 20, _, _, _, _, _⟩) (v := ?_) rfl (by kernel_rfl) (by kernel_rfl) (by kernel_rfl) (fun _ _ _ h => h) (Or.inl ⟨by rfl, ?_⟩) (by assumption) ?_
        rotate_left
        · intro wq hSw; go_simp; (try with_reducible rfl)
        try simp only [Act.put, List.setIfInBounds_toArray, List.set_cons_zero, List.set_cons_succ]
        refine wpAnyH_ready (rs := [7, 8]) (by kernel_rfl) (by simp) ?_
        refine AllReadyH.cons (o := ⟨some 5, _, _, _, _, _⟩) rfl (fun K hK => ?_) ?_
        have lo5 := hHeld3.1.size
        obtain ⟨⟨a5_z0, a5_c0, a5_f0⟩, ⟨a5_z1, a5_c1, a5_f1⟩, ⟨a5_z2, a5_c2, a5_f2⟩, ⟨a5_z3, a5_c3, a5_f3⟩, _⟩ := hHeld3.2
        (try simp at lo5); (try simp at a5_z0); (try simp at a5_z1); (try simp at a5_z2); (try simp at a5_z3)
        go_simp
        refine hK.out _ _ (by first | exact hHeld3.alloc _ | exact (hHeld3.alloc _).drew) (fun hHeld4 => ?_)
        (try replace zq := zq.alloc2 hHeld4)
        (try replace zr := zr.alloc2 hHeld4)
        first | have hS5 := newK2 hHeld4 | have hS5 := newK2d hHeld4
        clear hK K
        try clear hb
        try simp only [Act.put, List.setIfInBounds_toArray, List.set_cons_zero, List.set_cons_succ]
        generalize hGWA1 : World.alloc wd (.cells #[.bool false, .slice none 0 0] 28) = WA1 at *
        clear hGWA1
        refine wpAnyH_ready (rs := [8]) (by kernel_rfl) (by simp) ?_
        refine AllReadyH.cons (o := ⟨some 6, _, _, _, _, _⟩) rfl (fun K hK => ?_) AllReadyH.nil
        have hne5_6 := hS5.2.1.1
        have lo6 := hHeld4.1.size
        obtain ⟨⟨a6_z0, a6_c0, a6_f0⟩, ⟨a6_z1, a6_c1, a6_f1⟩, ⟨a6_z2, a6_c2, a6_f2⟩, ⟨a6_z3, a6_c3, a6_f3⟩, _⟩ := hHeld4.2
        (try simp at lo6); (try simp at hne5_6); (try simp at a6_z0); (try simp at a6_z1); (try simp at a6_z2); (try simp at a6_z3)
        go_simp
        refine hK.out _ _ (by first | exact hHeld4.alloc _ | exact (hHeld4.alloc _).drew) (fun hHeld5 => ?_)
        first | replace hS5 := hS5.alloc2e hHeld5 | replace hS5 := hS5.alloc2 hHeld5
        (try replace zq := zq.alloc2 hHeld5)
        (try replace zr := zr.alloc2 hHeld5)
        first | have hS6 := newK2 hHeld5 | have hS6 := newK2d hHeld5
        clear hK K
        try clear hb
        try simp only [Act.put, List.setIfInBounds_toArray, List.set_cons_zero, List.set_cons_succ]
        generalize hGWA2 : World.alloc WA1 (.cells #[.bool false, .slice none 0 0] 28) = WA2 at *
        clear hGWA2
        refine wpAnyH_ready (rs := [9]) (by kernel_rfl) (by simp) ?_
        refine AllReadyH.cons (o := ⟨none, _, _, _, _, _⟩) rfl (fun K hK => ?_) AllReadyH.nil
        obtain ⟨⟨s5z0, s5c0, s5f0⟩, ⟨s5z1, s5c1, s5f1⟩, _⟩ := hS5.2
        go_simp
        refine hK.out _ _ (by (repeat (first | (with_reducible exact hHeld5) | (refine Keeps.set ?_ (by simp <;> omega) (by simp <;> omega) _)))) (fun hHeld6 => ?_)
        replace hS6 := hS6.mv2 hHeld6 (by first | omega | (simp <;> omega)) (by simp <;> omega)
        (try replace zq := zq.store2 hHeld6 s5c0 s5c1)
        (try replace zr := zr.store2 hHeld6 s5c0 s5c1)
        replace hS5 := hHeld6.add2 s5z0 s5c0 s5f0 s5c1 s5f1
        clear s5z0 s5c0 s5f0 s5z1 s5c1 s5f1
        clear hK K
        try clear hb
        try simp only [Act.put, List.setIfInBounds_toArray, List.set_cons_zero, List.set_cons_succ]
        generalize hGWA3 : World.setCell (World.setCell WA2 ⟨wd.heap.size, 0, none⟩ (.bool bq)) ⟨wd.heap.size, 1, none⟩ (.slice Aq nq cq) = WA3 at *
        clear hGWA3
        refine wpAnyH_ready (rs := [10]) (by kernel_rfl) (by simp) ?_
        refine AllReadyH.cons (o := ⟨none, _, _, _, _, _⟩) rfl (fun K hK => ?_) AllReadyH.nil
        obtain ⟨⟨s6z0, s6c0, s6f0⟩, ⟨s6z1, s6c1, s6f1⟩, _⟩ := hS6.2
        go_simp
        refine hK.out _ _ (by (repeat (first | (with_reducible exact hHeld6) | (refine Keeps.set ?_ (by simp <;> omega) (by simp <;> omega) _)))) (fun hHeld7 => ?_)
        replace hS5 := hS5.mv2 hHeld7 (by first | omega | (simp <;> omega)) (by simp <;> omega)
        (try replace zq := zq.store2 hHeld7 s6c0 s6c1)
        (try replace zr := zr.store2 hHeld7 s6c0 s6c1)
        replace hS6 := hHeld7.add2 s6z0 s6c0 s6f0 s6c1 s6f1
        clear s6z0 s6c0 s6f0 s6z1 s6c1 s6f1
        clear hK K
        try clear hb
        try simp only [Act.put, List.setIfInBounds_toArray, List.set_cons_zero, List.set_cons_succ]
        generalize hGWA4 : World.setCell (World.setCell WA3 ⟨WA1.heap.size, 0, none⟩ (.bool br)) ⟨WA1.heap.size, 1, none⟩ (.slice Ar nr cr) = WA4 at *
        clear hGWA4
        refine wpAnyH_done (by kernel_rfl) ?_ _
        have hHeld := hHeld7
        rotate_left 1
        refine AllReadyH.cons (o := ⟨some 6, _, _, _, _, _⟩) rfl (fun K hK => ?_) ?_
        have lo6 := hHeld3.1.size
        obtain ⟨⟨a6_z0, a6_c0, a6_f0⟩, ⟨a6_z1, a6_c1, a6_f1⟩, ⟨a6_z2, a6_c2, a6_f2⟩, ⟨a6_z3, a6_c3, a6_f3⟩, _⟩ := hHeld3.2
        (try simp at lo6); (try simp at a6_z0); (try simp at a6_z1); (try simp at a6_z2); (try simp at a6_z3)
        go_simp
        refine hK.out _ _ (by first | exact hHeld3.alloc _ | exact (hHeld3.alloc _).drew) (fun hHeld8 => ?_)
        (try replace zq := zq.alloc2 hHeld8)
        (try replace zr := zr.alloc2 hHeld8)
        first | have hS6 := newK2 hHeld8 | have hS6 := newK2d hHeld8
        clear hK K
        try clear hb
        try simp only [Act.put, List.setIfInBounds_toArray, List.set_cons_zero, List.set_cons_succ]
        generalize hGWA5 : World.alloc wd (.cells #[.bool false, .slice none 0 0] 28) = WA5 at *
        clear hGWA5
        refine wpAnyH_ready (rs := [7]) (by kernel_rfl) (by simp) ?_
        refine AllReadyH.cons (o := ⟨some 5, _, _, _, _, _⟩) rfl (fun K hK => ?_) AllReadyH.nil
        have hne6_5 := hS6.2.1.1
        have lo5 := hHeld8.1.size
        obtain ⟨⟨a5_z0, a5_c0, a5_f0⟩, ⟨a5_z1, a5_c1, a5_f1⟩, ⟨a5_z2, a5_c2, a5_f2⟩, ⟨a5_z3, a5_c3, a5_f3⟩, _⟩ := hHeld8.2
        (try simp at lo5); (try simp at hne6_5); (try simp at a5_z0); (try simp at a5_z1); (try simp at a5_z2); (try simp at a5_z3)
        go_simp
        refine hK.out _ _ (by first | exact hHeld8.alloc _ | exact (hHeld8.alloc _).drew) (fun hHeld9 => ?_)
        first | replace hS6 := hS6.alloc2e hHeld9 | replace hS6 := hS6.alloc2 hHeld9
        (try replace zq := zq.alloc2 hHeld9)
        (try replace zr := zr.alloc2 hHeld9)
        first | have hS5 := newK2 hHeld9 | have hS5 := newK2d hHeld9
        clear hK K
        try clear hb
        try simp only [Act.put, List.setIfInBounds_toArray, List.set_cons_zero, List.set_cons_succ]
        generalize hGWA6 : World.alloc WA5 (.cells #[.bool false, .slice none 0 0] 28) = WA6 at *
        clear hGWA6
        refine wpAnyH_ready (rs := [9]) (by kernel_rfl) (by simp) ?_
        refine AllReadyH.cons (o := ⟨none, _, _, _, _, _⟩) rfl (fun K hK => ?_) AllReadyH.nil
        obtain ⟨⟨s5z0, s5c0, s5f0⟩, ⟨s5z1, s5c1, s5f1⟩, _⟩ := hS5.2
        go_simp
        refine hK.out _ _ (by (repeat (first | (with_reducible exact hHeld9) | (refine Keeps.set ?_ (by simp <;> omega) (by simp <;> omega) _)))) (fun hHeld10 => ?_)
        replace hS6 := hS6.mv2 hHeld10 (by first | omega | (simp <;> omega)) (by simp <;> omega)
        (try replace zq := zq.store2 hHeld10 s5c0 s5c1)
        (try replace zr := zr.store2 hHeld10 s5c0 s5c1)
        replace hS5 := hHeld10.add2 s5z0 s5c0 s5f0 s5c1 s5f1
        clear s5z0 s5c0 s5f0 s5z1 s5c1 s5f1
        clear hK K
        try clear hb
        try simp only [Act.put, List.setIfInBounds_toArray, List.set_cons_zero, List.set_cons_succ]
        generalize hGWA7 : World.setCell (World.setCell WA6 ⟨WA5.heap.size, 0, none⟩ (.bool bq)) ⟨WA5.heap.size, 1, none⟩ (.slice Aq nq cq) = WA7 at *
        clear hGWA7
        refine wpAnyH_ready (rs := [10]) (by kernel_rfl) (by simp) ?_
        refine AllReadyH.cons (o := ⟨none, _, _, _, _, _⟩) rfl (fun K hK => ?_) AllReadyH.nil
        obtain ⟨⟨s6z0, s6c0, s6f0⟩, ⟨s6z1, s6c1, s6f1⟩, _⟩ := hS6.2
        go_simp
        refine hK.out _ _ (by (repeat (first | (with_reducible exact hHeld10) | (refine Keeps.set ?_ (by simp <;> omega) (by simp <;> omega) _)))) (fun hHeld11 => ?_)
        replace hS5 := hS5.mv2 hHeld11 (by first | omega | (simp <;> omega)) (by simp <;> omega)
        (try replace zq := zq.store2 hHeld11 s6c0 s6c1)
        (try replace zr := zr.store2 hHeld11 s6c0 s6c1)
        replace hS6 := hHeld11.add2 s6z0 s6c0 s6f0 s6c1 s6f1
        clear s6z0 s6c0 s6f0 s6z1 s6c1 s6f1
        clear hK K
        try clear hb
        try simp only [Act.put, List.setIfInBounds_toArray, List.set_cons_zero, List.set_cons_succ]
        generalize hGWA8 : World.setCell (World.setCell WA7 ⟨wd.heap.size, 0, none⟩ (.bool br)) ⟨wd.heap.size, 1, none⟩ (.slice Ar nr cr) = WA8 at *
        clear hGWA8
        refine wpAnyH_done (by kernel_rfl) ?_ _
        have hHeld := hHeld11
        rotate_left 1
        exact AllReadyH.nil
        refine AllReadyH.cons (o := ⟨some 5, _, _, _, _, _⟩) rfl (fun K hK => ?_) ?_
        have lo5 := hHeld2.1.size
        obtain ⟨⟨a5_z0, a5_c0, a5_f0⟩, ⟨a5_z1, a5_c1, a5_f1⟩, ⟨a5_z2, a5_c2, a5_f2⟩, ⟨a5_z3, a5_c3, a5_f3⟩, _⟩ := hHeld2.2
        (try simp at lo5); (try simp at a5_z0); (try simp at a5_z1); (try simp at a5_z2); (try simp at a5_z3)
        go_simp
        refine hK.out _ _ (by first | exact hHeld2.alloc _ | exact (hHeld2.alloc _).drew) (fun hHeld12 => ?_)
        (try replace zt := zt.alloc2 hHeld12)
        first | have hS5 := newK2 hHeld12 | have hS5 := newK2d hHeld12
        clear hK K
        try clear hb
        try simp only [Act.put, List.setIfInBounds_toArray, List.set_cons_zero, List.set_cons_succ]
        generalize hGWA9 : World.alloc wt (.cells #[.bool false, .slice none 0 0] 28) = WA9 at *
        clear hGWA9
        refine wpAnyH_ready (rs := [3, 8]) (by kernel_rfl) (by simp) ?_
        refine AllReadyH.cons (o := ⟨some 18, _, _, _, _, _⟩) rfl (fun K hK => ?_) ?_
        go_simp
        (first | ((with_reducible refine (SZ.out _).mono ?_); rintro e ws ⟨A2, n2, c2, rfl, hb, hn2⟩) | ((with_reducible refine (MT.out _ _ hn2).mono ?_); rintro e wt ⟨bt, At, nt, ct, rfl, hb, zt⟩) | ((with_reducible refine (DR.out _ _ _ (HZ.out.below (by first | exact hHeld0.bel | exact hHeld1.bel | exact hHeld2.bel | exact hHeld3.bel | exact hHeld4.bel | exact hHeld5.bel | exact hHeld6.bel | exact hHeld7.bel | exact hHeld8.bel | exact hHeld9.bel | exact hHeld10.bel | exact hHeld11.bel | exact hHeld12.bel | exact hHeld13.bel | exact hHeld14.bel | exact hHeld15.bel | exact hHeld16.bel | exact hHeld17.bel | exact hHeld18.bel | exact hHeld19.bel | exact hHeld20.bel | exact hHeld21.bel | exact hHeld22.bel | exact hHeld23.bel | exact hHeld24.bel | exact hHeld25.bel | exact hHeld26.bel | exact hHeld27.bel | exact hHeld28.bel | exact hHeld29.bel | exact hHeld30.bel | exact hHeld31.bel | exact hHeld32.bel | exact hHeld33.bel | exact hHeld34.bel | exact hHeld35.bel | exact hHeld36.bel | exact hHeld37.bel | exact hHeld38.bel | exact hHeld39.bel | exact hHeld40.bel | exact hHeld41.bel | exact hHeld42.bel | exact hHeld43.bel | exact hHeld44.bel | exact hHeld45.bel | exact hHeld46.bel | exact hHeld47.bel | exact hHeld48.bel | exact hHeld49.bel | exact hHeld50.bel | exact hHeld51.bel | exact hHeld52.bel | exact hHeld53.bel | exact hHeld54.bel | exact hHeld55.bel | exact hHeld56.bel | exact hHeld57.bel | exact hHeld58.bel | exact hHeld59.bel | exact hHeld60.bel | exact hHeld61.bel | exact hHeld62.bel | exact hHeld63.bel | exact hHeld64.bel | exact hHeld65.bel | exact hHeld66.bel | exact hHeld67.bel | exact hHeld68.bel | exact hHeld69.bel | exact hHeld70.bel | exact hHeld71.bel | exact hHeld72.bel | exact hHeld73.bel | exact hHeld74.bel | exact hHeld75.bel | exact hHeld76.bel | exact hHeld77.bel | exact hHeld78.bel | exact hHeld79.bel | exact hHeld80.bel | exact hHeld81.bel | exact hHeld82.bel | exact hHeld83.bel | exact hHeld84.bel | exact hHeld85.bel | exact hHeld86.bel | exact hHeld87.bel | exact hHeld88.bel | exact hHeld89.bel | exact hHeld90.bel | exact hHeld91.bel | exact hHeld92.bel | exact hHeld93.bel | exact hHeld94.bel | exact hHeld95.bel | exact hHeld96.bel | exact hHeld97.bel | exact hHeld98.bel | exact hHeld99.bel | exact hHeld100.bel | exact hHeld101.bel | exact hHeld102.bel | exact hHeld103.bel | exact hHeld104.bel | exact hHeld105.bel | exact hHeld106.bel | exact hHeld107.bel | exact hHeld108.bel | exact hHeld109.bel | exact hHeld110.bel | exact hHeld111.bel | exact hHeld112.bel | exact hHeld113.bel | exact hHeld114.bel | exact hHeld115.bel | exact hHeld116.bel | exact hHeld117.bel | exact hHeld118.bel | exact hHeld119.bel | exact hHeld120.bel | exact hHeld121.bel | exact hHeld122.bel | exact hHeld123.bel | exact hHeld124.bel | exact hHeld125.bel | exact hHeld126.bel | exact hHeld127.bel | exact hHeld128.bel | exact hHeld129.bel)) zt).mono ?_); rintro e wd ⟨bq, Aq, nq, cq, br, Ar, nr, cr, rfl, hb, zq, zr⟩))
        refine hK.out _ _ (hHeld12.next hb) (fun hHeld13 => ?_)
        replace hS5 := hS5.next hb
        (try replace zt := zt.below hb)
        clear hK K
        try clear hb
        try simp only [Act.put, List.setIfInBounds_toArray, List.set_cons_zero, List.set_cons_succ]
        refine wpAnyH_take (i := 4) (oi := ⟨some 14, _, _, _, _, _⟩) (v := ?_) rfl (by kernel_rfl) (by kernel_rfl) (by kernel_rfl) (fun _ _ _ h => h) (Or.inl ⟨by rfl, ?_⟩) (by assumption) ?_
        rotate_left
        · intro wq hSw; go_simp; (try with_reducible rfl)
        try simp only [Act.put, List.setIfInBounds_toArray, List.set_cons_zero, List.set_cons_succ]
        refine wpAnyH_take (i := 5) (oi := ⟨some 19, _, _, _, _, _⟩) (v := ?_) rfl (by kernel_rfl) (by kernel_rfl) (by kernel_rfl) (fun _ _ _ h => h) (Or.inl ⟨by rfl, ?_⟩) (by assumption) ?_
        rotate_left
        · intro wq hSw; go_simp; (try with_reducible rfl)
        try simp only [Act.put, List.setIfInBounds_toArray, List.set_cons_zero, List.set_cons_succ]
        refine wpAnyH_take (i := 6) (oi := ⟨some 20, _, _, _, _, _⟩) (v := ?_) rfl (by kernel_rfl) (by kernel_rfl) (by kernel_rfl) (fun _ _ _ h => h) (Or.inl ⟨by rfl, ?_⟩) (by assumption) ?_
        rotate_left
        · intro wq hSw; go_simp; (try with_reducible rfl)
        try simp only [Act.put, List.setIfInBounds_toArray, List.set_cons_zero, List.set_cons_succ]
        refine wpAnyH_ready (rs := [8]) (by kernel_rfl) (by simp) ?_
        refine AllReadyH.cons (o := ⟨some 6, _, _, _, _, _⟩) rfl (fun K hK => ?_) AllReadyH.nil
        have hne5_6 := hS5.2.1.1
        have lo6 := hHeld13.1.size
        obtain ⟨⟨a6_z0, a6_c0, a6_f0⟩, ⟨a6_z1, a6_c1, a6_f1⟩, ⟨a6_z2, a6_c2, a6_f2⟩, ⟨a6_z3, a6_c3, a6_f3⟩, _⟩ := hHeld13.2
        (try simp at lo6); (try simp at hne5_6); (try simp at a6_z0); (try simp at a6_z1); (try simp at a6_z2); (try simp at a6_z3)
        go_simp
        refine hK.out _ _ (by first | exact hHeld13.alloc _ | exact (hHeld13.alloc _).drew) (fun hHeld14 => ?_)
        first | replace hS5 := hS5.alloc2e hHeld14 | replace hS5 := hS5.alloc2 hHeld14
        (try replace zq := zq.alloc2 hHeld14)
        (try replace zr := zr.alloc2 hHeld14)
        first | have hS6 := newK2 hHeld14 | have hS6 := newK2d hHeld14
        clear hK K
        try clear hb
        try simp only [Act.put, List.setIfInBounds_toArray, List.set_cons_zero, List.set_cons_succ]
        generalize hGWA10 : World.alloc wd (.cells #[.bool false, .slice none 0 0] 28) = WA10 at *
        clear hGWA10
        refine wpAnyH_ready (rs := [9]) (by kernel_rfl) (by simp) ?_
        refine AllReadyH.cons (o := ⟨none, _, _, _, _, _⟩) rfl (fun K hK => ?_) AllReadyH.nil
        obtain ⟨⟨s5z0, s5c0, s5f0⟩, ⟨s5z1, s5c1, s5f1⟩, _⟩ := hS5.2
        go_simp
        refine hK.out _ _ (by (repeat (first | (with_reducible exact hHeld14) | (refine Keeps.set ?_ (by simp <;> omega) (by simp <;> omega) _)))) (fun hHeld15 => ?_)
        replace hS6 := hS6.mv2 hHeld15 (by first | omega | (simp <;> omega)) (by simp <;> omega)
        (try replace zq := zq.store2 hHeld15 s5c0 s5c1)
        (try replace zr := zr.store2 hHeld15 s5c0 s5c1)
        replace hS5 := hHeld15.add2 s5z0 s5c0 s5f0 s5c1 s5f1
        clear s5z0 s5c0 s5f0 s5z1 s5c1 s5f1
        clear hK K
        try clear hb
        try simp only [Act.put, List.setIfInBounds_toArray, List.set_cons_zero, List.set_cons_succ]
        generalize hGWA11 : World.setCell (World.setCell WA10 ⟨wt.heap.size, 0, none⟩ (.bool bq)) ⟨wt.heap.size, 1, none⟩ (.slice Aq nq cq) = WA11 at *
        clear hGWA11
        refine wpAnyH_ready (rs := [10]) (by kernel_rfl) (by simp) ?_
        refine AllReadyH.cons (o := ⟨none, _, _, _, _, _⟩) rfl (fun K hK => ?_) AllReadyH.nil
        obtain ⟨⟨s6z0, s6c0, s6f0⟩, ⟨s6z1, s6c1, s6f1⟩, _⟩ := hS6.2
        go_simp
        refine hK.out _ _ (by (repeat (first | (with_reducible exact hHeld15) | (refine Keeps.set ?_ (by simp <;> omega) (by simp <;> omega) _)))) (fun hHeld16 => ?_)
        replace hS5 := hS5.mv2 hHeld16 (by first | omega | (simp <;> omega)) (by simp <;> omega)
        (try replace zq := zq.store2 hHeld16 s6c0 s6c1)
        (try replace zr := zr.store2 hHeld16 s6c0 s6c1)
        replace hS6 := hHeld16.add2 s6z0 s6c0 s6f0 s6c1 s6f1
        clear s6z0 s6c0 s6f0 s6z1 s6c1 s6f1
        clear hK K
        try clear hb
        try simp only [Act.put, List.setIfInBounds_toArray, List.set_cons_zero, List.set_cons_succ]
        generalize hGWA12 : World.setCell (World.setCell WA11 ⟨wd.heap.size, 0, none⟩ (.bool br)) ⟨wd.heap.size, 1, none⟩ (.slice Ar nr cr) = WA12 at *
        clear hGWA12
        refine wpAnyH_done (by kernel_rfl) ?_ _
        have hHeld := hHeld16
        rotate_left 1
        refine AllReadyH.cons (o := ⟨some 6, _, _, _, _, _⟩) rfl (fun K hK => ?_) ?_
        have hne5_6 := hS5.2.1.1
        have lo6 := hHeld12.1.size
        obtain ⟨⟨a6_z0, a6_c0, a6_f0⟩, ⟨a6_z1, a6_c1, a6_f1⟩, ⟨a6_z2, a6_c2, a6_f2⟩, ⟨a6_z3, a6_c3, a6_f3⟩, _⟩ := hHeld12.2
        (try simp at lo6); (try simp at hne5_6); (try simp at a6_z0); (try simp at a6_z1); (try simp at a6_z2); (try simp at a6_z3)
        go_simp
        refine hK.out _ _ (by first | exact hHeld12.alloc _ | exact (hHeld12.alloc _).drew) (fun hHeld17 => ?_)
        first | replace hS5 := hS5.alloc2e hHeld17 | replace hS5 := hS5.alloc2 hHeld17
        (try replace zt := zt.alloc2 hHeld17)
        first | have hS6 := newK2 hHeld17 | have hS6 := newK2d hHeld17
        clear hK K
        try clear hb
        try simp only [Act.put, List.setIfInBounds_toArray, List.set_cons_zero, List.set_cons_succ]
        generalize hGWA13 : World.alloc WA9 (.cells #[.bool false, .slice none 0 0] 28) = WA13 at *
        clear hGWA13
        refine wpAnyH_ready (rs := [3]) (by kernel_rfl) (by simp) ?_
        refine AllReadyH.cons (o := ⟨some 18, _, _, _, _, _⟩) rfl (fun K hK => ?_) AllReadyH.nil
        go_simp
        (first | ((with_reducible refine (SZ.out _).mono ?_); rintro e ws ⟨A2, n2, c2, rfl, hb, hn2⟩) | ((with_reducible refine (MT.out _ _ hn2).mono ?_); rintro e wt ⟨bt, At, nt, ct, rfl, hb, zt⟩) | ((with_reducible refine (DR.out _ _ _ (HZ.out.below (by first | exact hHeld0.bel | exact hHeld1.bel | exact hHeld2.bel | exact hHeld3.bel | exact hHeld4.bel | exact hHeld5.bel | exact hHeld6.bel | exact hHeld7.bel | exact hHeld8.bel | exact hHeld9.bel | exact hHeld10.bel | exact hHeld11.bel | exact hHeld12.bel | exact hHeld13.bel | exact hHeld14.bel | exact hHeld15.bel | exact hHeld16.bel | exact hHeld17.bel | exact hHeld18.bel | exact hHeld19.bel | exact hHeld20.bel | exact hHeld21.bel | exact hHeld22.bel | exact hHeld23.bel | exact hHeld24.bel | exact hHeld25.bel | exact hHeld26.bel | exact hHeld27.bel | exact hHeld28.bel | exact hHeld29.bel | exact hHeld30.bel | exact hHeld31.bel | exact hHeld32.bel | exact hHeld33.bel | exact hHeld34.bel | exact hHeld35.bel | exact hHeld36.bel | exact hHeld37.bel | exact hHeld38.bel | exact hHeld39.bel | exact hHeld40.bel | exact hHeld41.bel | exact hHeld42.bel | exact hHeld43.bel | exact hHeld44.bel | exact hHeld45.bel | exact hHeld46.bel | exact hHeld47.bel | exact hHeld48.bel | exact hHeld49.bel | exact hHeld50.bel | exact hHeld51.bel | exact hHeld52.bel | exact hHeld53.bel | exact hHeld54.bel | exact hHeld55.bel | exact hHeld56.bel | exact hHeld57.bel | exact hHeld58.bel | exact hHeld59.bel | exact hHeld60.bel | exact hHeld61.bel | exact hHeld62.bel | exact hHeld63.bel | exact hHeld64.bel | exact hHeld65.bel | exact hHeld66.bel | exact hHeld67.bel | exact hHeld68.bel | exact hHeld69.bel | exact hHeld70.bel | exact hHeld71.bel | exact hHeld72.bel | exact hHeld73.bel | exact hHeld74.bel | exact hHeld75.bel | exact hHeld76.bel | exact hHeld77.bel | exact hHeld78.bel | exact hHeld79.bel | exact hHeld80.bel | exact hHeld81.bel | exact hHeld82.bel | exact hHeld83.bel | exact hHeld84.bel | exact hHeld85.bel | exact hHeld86.bel | exact hHeld87.bel | exact hHeld88.bel | exact hHeld89.bel | exact hHeld90.bel | exact hHeld91.bel | exact hHeld92.bel | exact hHeld93.bel | exact hHeld94.bel | exact hHeld95.bel | exact hHeld96.bel | exact hHeld97.bel | exact hHeld98.bel | exact hHeld99.bel | exact hHeld100.bel | exact hHeld101.bel | exact hHeld102.bel | exact hHeld103.bel | exact hHeld104.bel | exact hHeld105.bel | exact hHeld106.bel | exact hHeld107.bel | exact hHeld108.bel | exact hHeld109.bel | exact hHeld110.bel | exact hHeld111.bel | exact hHeld112.bel | exact hHeld113.bel | exact hHeld114.bel | exact hHeld115.bel | exact hHeld116.bel | exact hHeld117.bel | exact hHeld118.bel | exact hHeld119.bel | exact hHeld120.bel | exact hHeld121.bel | exact hHeld122.bel | exact hHeld123.bel | exact hHeld124.bel | exact hHeld125.bel | exact hHeld126.bel | exact hHeld127.bel | exact hHeld128.bel | exact hHeld129.bel)) zt).mono ?_); rintro e wd ⟨bq, Aq, nq, cq, br, Ar, nr, cr, rfl, hb, zq, zr⟩))
        refine hK.out _ _ (hHeld17.next hb) (fun hHeld18 => ?_)
        replace hS5 := hS5.next hb
        replace hS6 := hS6.next hb
        (try replace zt := zt.below hb)
        clear hK K
        try clear hb
        try simp only [Act.put, List.setIfInBounds_toArray, List.set_cons_zero, List.set_cons_succ]
        refine wpAnyH_take (i := 4) (oi := ⟨some 14, _, _, _, _, _⟩) (v := ?_) rfl (by kernel_rfl) (by kernel_rfl) (by kernel_rfl) (fun _ _ _ h => h) (Or.inl ⟨by rfl, ?_⟩) (by assumption) ?_
        rotate_left
        · intro wq hSw; go_simp; (try with_reducible rfl)
        try simp only [Act.put, List.setIfInBounds_toArray, List.set_cons_zero, List.set_cons_succ]
        refine wpAnyH_take (i := 5) (oi := ⟨some 19, _, _, _, _, _⟩) (v := ?_) rfl (by kernel_rfl) (by kernel_rfl) (by kernel_rfl) (fun _ _ _ h => h) (Or.inl ⟨by rfl, ?_⟩) (by assumption) ?_
        rotate_left
        · intro wq hSw; go_simp; (try with_reducible rfl)
        try simp only [Act.put, List.setIfInBounds_toArray, List.set_cons_zero, List.set_cons_succ]
        refine wpAnyH_take (i := 6) (oi := ⟨some 20, _, _, _, _, _⟩) (v := ?_) rfl (by kernel_rfl) (by kernel_rfl) (by kernel_rfl) (fun _ _ _ h => h) (Or.inl ⟨by rfl, ?_⟩) (by assumption) ?_
        rotate_left
        · intro wq hSw; go_simp; (try with_reducible rfl)
        try simp only [Act.put, List.setIfInBounds_toArray, List.set_cons_zero, List.set_cons_succ]
        refine wpAnyH_ready (rs := [9]) (by kernel_rfl) (by simp) ?_
        refine AllReadyH.cons (o := ⟨none, _, _, _, _, _⟩) rfl (fun K hK => ?_) AllReadyH.nil
        obtain ⟨⟨s5z0, s5c0, s5f0⟩, ⟨s5z1, s5c1, s5f1⟩, _⟩ := hS5.2
        go_simp
        refine hK.out _ _ (by (repeat (first | (with_reducible exact hHeld18) | (refine Keeps.set ?_ (by simp <;> omega) (by simp <;> omega) _)))) (fun hHeld19 => ?_)
        replace hS6 := hS6.mv2 hHeld19 (by first | omega | (simp <;> omega)) (by simp <;> omega)
        (try replace zq := zq.store2 hHeld19 s5c0 s5c1)
        (try replace zr := zr.store2 hHeld19 s5c0 s5c1)
        replace hS5 := hHeld19.add2 s5z0 s5c0 s5f0 s5c1 s5f1
        clear s5z0 s5c0 s5f0 s5z1 s5c1 s5f1
        clear hK K
        try clear hb
        try simp only [Act.put, List.setIfInBounds_toArray, List.set_cons_zero, List.set_cons_succ]
        generalize hGWA14 : World.setCell (World.setCell wd ⟨wt.heap.size, 0, none⟩ (.bool bq)) ⟨wt.heap.size, 1, none⟩ (.slice Aq nq cq) = WA14 at *
        clear hGWA14
        refine wpAnyH_ready (rs := [10]) (by kernel_rfl) (by simp) ?_
        refine AllReadyH.cons (o := ⟨none, _, _, _, _, _⟩) rfl (fun K hK => ?_) AllReadyH.nil
        obtain ⟨⟨s6z0, s6c0, s6f0⟩, ⟨s6z1, s6c1, s6f1⟩, _⟩ := hS6.2
        go_simp
        refine hK.out _ _ (by (repeat (first | (with_reducible exact hHeld19) | (refine Keeps.set ?_ (by simp <;> omega) (by simp <;> omega) _)))) (fun hHeld20 => ?_)
        replace hS5 := hS5.mv2 hHeld20 (by first | omega | (simp <;> omega)) (by simp <;> omega)
        (try replace zq := zq.store2 hHeld20 s6c0 s6c1)
        (try replace zr := zr.store2 hHeld20 s6c0 s6c1)
        replace hS6 := hHeld20.add2 s6z0 s6c0 s6f0 s6c1 s6f1
        clear s6z0 s6c0 s6f0 s6z1 s6c1 s6f1
        clear hK K
        try clear hb
        try simp only [Act.put, List.setIfInBounds_toArray, List.set_cons_zero, List.set_cons_succ]
        generalize hGWA15 : World.setCell (World.setCell WA14 ⟨WA9.heap.size, 0, none⟩ (.bool br)) ⟨WA9.heap.size, 1, none⟩ (.slice Ar nr cr) = WA15 at *
        clear hGWA15
        refine wpAnyH_done (by kernel_rfl) ?_ _
        have hHeld := hHeld20
        rotate_left 1
        exact AllReadyH.nil
        refine AllReadyH.cons (o := ⟨some 6, _, _, _, _, _⟩) rfl (fun K hK => ?_) ?_
        have lo6 := hHeld2.1.size
        obtain ⟨⟨a6_z0, a6_c0, a6_f0⟩, ⟨a6_z1, a6_c1, a6_f1⟩, ⟨a6_z2, a6_c2, a6_f2⟩, ⟨a6_z3, a6_c3, a6_f3⟩, _⟩ := hHeld2.2
        (try simp at lo6); (try simp at a6_z0); (try simp at a6_z1); (try simp at a6_z2); (try simp at a6_z3)
        go_simp
        refine hK.out _ _ (by first | exact hHeld2.alloc _ | exact (hHeld2.alloc _).drew) (fun hHeld21 => ?_)
        (try replace zt := zt.alloc2 hHeld21)
        first | have hS6 := newK2 hHeld21 | have hS6 := newK2d hHeld21
        clear hK K
        try clear hb
        try simp only [Act.put, List.setIfInBounds_toArray, List.set_cons_zero, List.set_cons_succ]
        generalize hGWA16 : World.alloc wt (.cells #[.bool false, .slice none 0 0] 28) = WA16 at *
        clear hGWA16
        refine wpAnyH_ready (rs := [3, 7]) (by kernel_rfl) (by simp) ?_
        refine AllReadyH.cons (o := ⟨some 18, _, _, _, _, _⟩) rfl (fun K hK => ?_) ?_
        go_simp
        (first | ((with_reducible refine (SZ.out _).mono ?_); rintro e ws ⟨A2, n2, c2, rfl, hb, hn2⟩) | ((with_reducible refine (MT.out _ _ hn2).mono ?_); rintro e wt ⟨bt, At, nt, ct, rfl, hb, zt⟩) | ((with_reducible refine (DR.out _ _ _ (HZ.out.below (by first | exact hHeld0.bel | exact hHeld1.bel | exact hHeld2.bel | exact hHeld3.bel | exact hHeld4.bel | exact hHeld5.bel | exact hHeld6.bel | exact hHeld7.bel | exact hHeld8.bel | exact hHeld9.bel | exact hHeld10.bel | exact hHeld11.bel | exact hHeld12.bel | exact hHeld13.bel | exact hHeld14.bel | exact hHeld15.bel | exact hHeld16.bel | exact hHeld17.bel | exact hHeld18.bel | exact hHeld19.bel | exact hHeld20.bel | exact hHeld21.bel | exact hHeld22.bel | exact hHeld23.bel | exact hHeld24.bel | exact hHeld25.bel | exact hHeld26.bel | exact hHeld27.bel | exact hHeld28.bel | exact hHeld29.bel | exact hHeld30.bel | exact hHeld31.bel | exact hHeld32.bel | exact hHeld33.bel | exact hHeld34.bel | exact hHeld35.bel | exact hHeld36.bel | exact hHeld37.bel | exact hHeld38.bel | exact hHeld39.bel | exact hHeld40.bel | exact hHeld41.bel | exact hHeld42.bel | exact hHeld43.bel | exact hHeld44.bel | exact hHeld45.bel | exact hHeld46.bel | exact hHeld47.bel | exact hHeld48.bel | exact hHeld49.bel | exact hHeld50.bel | exact hHeld51.bel | exact hHeld52.bel | exact hHeld53.bel | exact hHeld54.bel | exact hHeld55.bel | exact hHeld56.bel | exact hHeld57.bel | exact hHeld58.bel | exact hHeld59.bel | exact hHeld60.bel | exact hHeld61.bel | exact hHeld62.bel | exact hHeld63.bel | exact hHeld64.bel | exact hHeld65.bel | exact hHeld66.bel | exact hHeld67.bel | exact hHeld68.bel | exact hHeld69.bel | exact hHeld70.bel | exact hHeld71.bel | exact hHeld72.bel | exact hHeld73.bel | exact hHeld74.bel | exact hHeld75.bel | exact hHeld76.bel | exact hHeld77.bel | exact hHeld78.bel | exact hHeld79.bel | exact hHeld80.bel | exact hHeld81.bel | exact hHeld82.bel | exact hHeld83.bel | exact hHeld84.bel | exact hHeld85.bel | exact hHeld86.bel | exact hHeld87.bel | exact hHeld88.bel | exact hHeld89.bel | exact hHeld90.bel | exact hHeld91.bel | exact hHeld92.bel | exact hHeld93.bel | exact hHeld94.bel | exact hHeld95.bel | exact hHeld96.bel | exact hHeld97.bel | exact hHeld98.bel | exact hHeld99.bel | exact hHeld100.bel | exact hHeld101.bel | exact hHeld102.bel | exact hHeld103.bel | exact hHeld104.bel | exact hHeld105.bel | exact hHeld106.bel | exact hHeld107.bel | exact hHeld108.bel | exact hHeld109.bel | exact hHeld110.bel | exact hHeld111.bel | exact hHeld112.bel | exact hHeld113.bel | exact hHeld114.bel | exact hHeld115.bel | exact hHeld116.bel | exact hHeld117.bel | exact hHeld118.bel | exact hHeld119.bel | exact hHeld120.bel | exact hHeld121.bel | exact hHeld122.bel | exact hHeld123.bel | exact hHeld124.bel | exact hHeld125.bel | exact hHeld126.bel | exact hHeld127.bel | exact hHeld128.bel | exact hHeld129.bel)) zt).mono ?_); rintro e wd ⟨bq, Aq, nq, cq, br, Ar, nr, cr, rfl, hb, zq, zr⟩))
        refine hK.out _ _ (hHeld21.next hb) (fun hHeld22 => ?_)
        replace hS6 := hS6.next hb
        (try replace zt := zt.below hb)
        clear hK K
        try clear hb
        try simp only [Act.put, List.setIfInBounds_toArray, List.set_cons_zero, List.set_cons_succ]
        refine wpAnyH_take (i := 4) (oi := ⟨some 14, _, _, _, _, _⟩) (v := ?_) rfl (by kernel_rfl) (by kernel_rfl) (by kernel_rfl) (fun _ _ _ h => h) (Or.inl ⟨by rfl, ?_⟩) (by assumption) ?_
        rotate_left
        · intro wq hSw; go_simp; (try with_reducible rfl)
        try simp only [Act.put, List.setIfInBounds_toArray, List.set_cons_zero, List.set_cons_succ]
        refine wpAnyH_take (i := 5) (oi := ⟨some 19, _, _, _, _, _⟩) (v := ?_) rfl (by kernel_rfl) (by kernel_rfl) (by kernel_rfl) (fun _ _ _ h => h) (Or.inl ⟨by rfl, ?_⟩) (by assumption) ?_
        rotate_left
        · intro wq hSw; go_simp; (try with_reducible rfl)
        try simp only [Act.put, List.setIfInBounds_toArray, List.set_cons_zero, List.set_cons_succ]
        refine wpAnyH_take (i := 6) (oi := ⟨some 20, _, _, _, _, _⟩) (v := ?_) rfl (by kernel_rfl) (by kernel_rfl) (by kernel_rfl) (fun _ _ _ h => h) (Or.inl ⟨by rfl, ?_⟩) (by assumption) ?_
        rotate_left
        · intro wq hSw; go_simp; (try with_reducible rfl)
        try simp only [Act.put, List.setIfInBounds_toArray, List.set_cons_zero, List.set_cons_succ]
        refine wpAnyH_ready (rs := [7]) (by kernel_rfl) (by simp) ?_
        refine AllReadyH.cons (o := ⟨some 5, _, _, _, _, _⟩) rfl (fun K hK => ?_) AllReadyH.nil
        have hne6_5 := hS6.2.1.1
        have lo5 := hHeld22.1.size
        obtain ⟨⟨a5_z0, a5_c0, a5_f0⟩, ⟨a5_z1, a5_c1, a5_f1⟩, ⟨a5_z2, a5_c2, a5_f2⟩, ⟨a5_z3, a5_c3, a5_f3⟩, _⟩ := hHeld22.2
        (try simp at lo5); (try simp at hne6_5); (try simp at a5_z0); (try simp at a5_z1); (try simp at a5_z2); (try simp at a5_z3)
        go_simp
        refine hK.out _ _ (by first | exact hHeld22.alloc _ | exact (hHeld22.alloc _).drew) (fun hHeld23 => ?_)
        first | replace hS6 := hS6.alloc2e hHeld23 | replace hS6 := hS6.alloc2 hHeld23
        (try replace zq := zq.alloc2 hHeld23)
        (try replace zr := zr.alloc2 hHeld23)
        first | have hS5 := newK2 hHeld23 | have hS5 := newK2d hHeld23
        clear hK K
        try clear hb
        try simp only [Act.put, List.setIfInBounds_toArray, List.set_cons_zero, List.set_cons_succ]
        generalize hGWA17 : World.alloc wd (.cells #[.bool false, .slice none 0 0] 28) = WA17 at *
        clear hGWA17
        refine wpAnyH_ready (rs := [9]) (by kernel_rfl) (by simp) ?_
        refine AllReadyH.cons (o := ⟨none, _, _, _, _, _⟩) rfl (fun K hK => ?_) AllReadyH.nil
        obtain ⟨⟨s5z0, s5c0, s5f0⟩, ⟨s5z1, s5c1, s5f1⟩, _⟩ := hS5.2
        go_simp
        refine hK.out _ _ (by (repeat (first | (with_reducible exact hHeld23) | (refine Keeps.set ?_ (by simp <;> omega) (by simp <;> omega) _)))) (fun hHeld24 => ?_)
        replace hS6 := hS6.mv2 hHeld24 (by first | omega | (simp <;> omega)) (by simp <;> omega)
        (try replace zq := zq.store2 hHeld24 s5c0 s5c1)
        (try replace zr := zr.store2 hHeld24 s5c0 s5c1)
        replace hS5 := hHeld24.add2 s5z0 s5c0 s5f0 s5c1 s5f1
        clear s5z0 s5c0 s5f0 s5z1 s5c1 s5f1
        clear hK K
        try clear hb
        try simp only [Act.put, List.setIfInBounds_toArray, List.set_cons_zero, List.set_cons_succ]
        generalize hGWA18 : World.setCell (World.setCell WA17 ⟨wd.heap.size, 0, none⟩ (.bool bq)) ⟨wd.heap.size, 1, none⟩ (.slice Aq nq cq) = WA18 at *
        clear hGWA18
        refine wpAnyH_ready (rs := [10]) (by kernel_rfl) (by simp) ?_
        refine AllReadyH.cons (o := ⟨none, _, _, _, _, _⟩) rfl (fun K hK => ?_) AllReadyH.nil
        obtain ⟨⟨s6z0, s6c0, s6f0⟩, ⟨s6z1, s6c1, s6f1⟩, _⟩ := hS6.2
        go_simp
        refine hK.out _ _ (by (repeat (first | (with_reducible exact hHeld24) | (refine Keeps.set ?_ (by simp <;> omega) (by simp <;> omega) _)))) (fun hHeld25 => ?_)
        replace hS5 := hS5.mv2 hHeld25 (by first | omega | (simp <;> omega)) (by simp <;> omega)
        (try replace zq := zq.store2 hHeld25 s6c0 s6c1)
        (try replace zr := zr.store2 hHeld25 s6c0 s6c1)
        replace hS6 := hHeld25.add2 s6z0 s6c0 s6f0 s6c1 s6f1
        clear s6z0 s6c0 s6f0 s6z1 s6c1 s6f1
        clear hK K
        try clear hb
        try simp only [Act.put, List.setIfInBounds_toArray, List.set_cons_zero, List.set_cons_succ]
        generalize hGWA19 : World.setCell (World.setCell WA18 ⟨wt.heap.size, 0, none⟩ (.bool br)) ⟨wt.heap.size, 1, none⟩ (.slice Ar nr cr) = WA19 at *
        clear hGWA19
        refine wpAnyH_done (by kernel_rfl) ?_ _
        have hHeld := hHeld25
        rotate_left 1
        refine AllReadyH.cons (o := ⟨some 5, _, _, _, _, _⟩) rfl (fun K hK => ?_) ?_
        have hne6_5 := hS6.2.1.1
        have lo5 := hHeld21.1.size
        obtain ⟨⟨a5_z0, a5_c0, a5_f0⟩, ⟨a5_z1, a5_c1, a5_f1⟩, ⟨a5_z2, a5_c2, a5_f2⟩, ⟨a5_z3, a5_c3, a5_f3⟩, _⟩ := hHeld21.2
        (try simp at lo5); (try simp at hne6_5); (try simp at a5_z0); (try simp at a5_z1); (try simp at a5_z2); (try simp at a5_z3)
        go_simp
        refine hK.out _ _ (by first | exact hHeld21.alloc _ | exact (hHeld21.alloc _).drew) (fun hHeld26 => ?_)
        first | replace hS6 := hS6.alloc2e hHeld26 | replace hS6 := hS6.alloc2 hHeld26
        (try replace zt := zt.alloc2 hHeld26)
        first | have hS5 := newK2 hHeld26 | have hS5 := newK2d hHeld26
        clear hK K
        try clear hb
        try simp only [Act.put, List.setIfInBounds_toArray, List.set_cons_zero, List.set_cons_succ]
        generalize hGWA20 : World.alloc WA16 (.cells #[.bool false, .slice none 0 0] 28) = WA20 at *
        clear hGWA20
        refine wpAnyH_ready (rs := [3]) (by kernel_rfl) (by simp) ?_
        refine AllReadyH.cons (o := ⟨some 18, _, _, _, _, _⟩) rfl (fun K hK => ?_) AllReadyH.nil
        go_simp
        (first | ((with_reducible refine (SZ.out _).mono ?_); rintro e ws ⟨A2, n2, c2, rfl, hb, hn2⟩) | ((with_reducible refine (MT.out _ _ hn2).mono ?_); rintro e wt ⟨bt, At, nt, ct, rfl, hb, zt⟩) | ((with_reducible refine (DR.out _ _ _ (HZ.out.below (by first | exact hHeld0.bel | exact hHeld1.bel | exact hHeld2.bel | exact hHeld3.bel | exact hHeld4.bel | exact hHeld5.bel | exact hHeld6.bel | exact hHeld7.bel | exact hHeld8.bel | exact hHeld9.bel | exact hHeld10.bel | exact hHeld11.bel | exact hHeld12.bel | exact hHeld13.bel | exact hHeld14.bel | exact hHeld15.bel | exact hHeld16.bel | exact hHeld17.bel | exact hHeld18.bel | exact hHeld19.bel | exact hHeld20.bel | exact hHeld21.bel | exact hHeld22.bel | exact hHeld23.bel | exact hHeld24.bel | exact hHeld25.bel | exact hHeld26.bel | exact hHeld27.bel | exact hHeld28.bel | exact hHeld29.bel | exact hHeld30.bel | exact hHeld31.bel | exact hHeld32.bel | exact hHeld33.bel | exact hHeld34.bel | exact hHeld35.bel | exact hHeld36.bel | exact hHeld37.bel | exact hHeld38.bel | exact hHeld39.bel | exact hHeld40.bel | exact hHeld41.bel | exact hHeld42.bel | exact hHeld43.bel | exact hHeld44.bel | exact hHeld45.bel | exact hHeld46.bel | exact hHeld47.bel | exact hHeld48.bel | exact hHeld49.bel | exact hHeld50.bel | exact hHeld51.bel | exact hHeld52.bel | exact hHeld53.bel | exact hHeld54.bel | exact hHeld55.bel | exact hHeld56.bel | exact hHeld57.bel | exact hHeld58.bel | exact hHeld59.bel | exact hHeld60.bel | exact hHeld61.bel | exact hHeld62.bel | exact hHeld63.bel | exact hHeld64.bel | exact hHeld65.bel | exact hHeld66.bel | exact hHeld67.bel | exact hHeld68.bel | exact hHeld69.bel | exact hHeld70.bel | exact hHeld71.bel | exact hHeld72.bel | exact hHeld73.bel | exact hHeld74.bel | exact hHeld75.bel | exact hHeld76.bel | exact hHeld77.bel | exact hHeld78.bel | exact hHeld79.bel | exact hHeld80.bel | exact hHeld81.bel | exact hHeld82.bel | exact hHeld83.bel | exact hHeld84.bel | exact hHeld85.bel | exact hHeld86.bel | exact hHeld87.bel | exact hHeld88.bel | exact hHeld89.bel | exact hHeld90.bel | exact hHeld91.bel | exact hHeld92.bel | exact hHeld93.bel | exact hHeld94.bel | exact hHeld95.bel | exact hHeld96.bel | exact hHeld97.bel | exact hHeld98.bel | exact hHeld99.bel | exact hHeld100.bel | exact hHeld101.bel | exact hHeld102.bel | exact hHeld103.bel | exact hHeld104.bel | exact hHeld105.bel | exact hHeld106.bel | exact hHeld107.bel | exact hHeld108.bel | exact hHeld109.bel | exact hHeld110.bel | exact hHeld111.bel | exact hHeld112.bel | exact hHeld113.bel | exact hHeld114.bel | exact hHeld115.bel | exact hHeld116.bel | exact hHeld117.bel | exact hHeld118.bel | exact hHeld119.bel | exact hHeld120.bel | exact hHeld121.bel | exact hHeld122.bel | exact hHeld123.bel | exact hHeld124.bel | exact hHeld125.bel | exact hHeld126.bel | exact hHeld127.bel | exact hHeld128.bel | exact hHeld129.bel)) zt).mono ?_); rintro e wd ⟨bq, Aq, nq, cq, br, Ar, nr, cr, rfl, hb, zq, zr⟩))
        refine hK.out _ _ (hHeld26.next hb) (fun hHeld27 => ?_)
        replace hS6 := hS6.next hb
        replace hS5 := hS5.next hb
        (try replace zt := zt.below hb)
        clear hK K
        try clear hb
        try simp only [Act.put, List.setIfInBounds_toArray, List.set_cons_zero, List.set_cons_succ]
        refine wpAnyH_take (i := 4) (oi := ⟨some 14, _, _, _, _, _⟩) (v := ?_) rfl (by kernel_rfl) (by kernel_rfl) (by kernel_rfl) (fun _ _ _ h => h) (Or.inl ⟨by rfl, ?_⟩) (by assumption) ?_
        rotate_left
        · intro wq hSw; go_simp; (try with_reducible rfl)
        try simp only [Act.put, List.setIfInBounds_toArray, List.set_cons_zero, List.set_cons_succ]
        refine wpAnyH_take (i := 5) (oi := ⟨some 19, _, _, _, _, _⟩) (v := ?_) rfl (by kernel_rfl) (by kernel_rfl) (by kernel_rfl) (fun _ _ _ h => h) (Or.inl ⟨by rfl, ?_⟩) (by assumption) ?_
        rotate_left
        · intro wq hSw; go_simp; (try with_reducible rfl)
        try simp only [Act.put, List.setIfInBounds_toArray, List.set_cons_zero, List.set_cons_succ]
        refine wpAnyH_take (i := 6) (oi := ⟨some 20, _, _, _, _, _⟩) (v := ?_) rfl (by kernel_rfl) (by kernel_rfl) (by kernel_rfl) (fun _ _ _ h => h) (Or.inl ⟨by rfl, ?_⟩) (by assumption) ?_
        rotate_left
        · intro wq hSw; go_simp; (try with_reducible rfl)
        try simp only [Act.put, List.setIfInBounds_toArray, List.set_cons_zero, List.set_cons_succ]
        refine wpAnyH_ready (rs := [9]) (by kernel_rfl) (by simp) ?_
        refine AllReadyH.cons (o := ⟨none, _, _, _, _, _⟩) rfl (fun K hK => ?_) AllReadyH.nil
        obtain ⟨⟨s5z0, s5c0, s5f0⟩, ⟨s5z1, s5c1, s5f1⟩, _⟩ := hS5.2
        go_simp
        refine hK.out _ _ (by (repeat (first | (with_reducible exact hHeld27) | (refine Keeps.set ?_ (by simp <;> omega) (by simp <;> omega) _)))) (fun hHeld28 => ?_)
        replace hS6 := hS6.mv2 hHeld28 (by first | omega | (simp <;> omega)) (by simp <;> omega)
        (try replace zq := zq.store2 hHeld28 s5c0 s5c1)
        (try replace zr := zr.store2 hHeld28 s5c0 s5c1)
        replace hS5 := hHeld28.add2 s5z0 s5c0 s5f0 s5c1 s5f1
        clear s5z0 s5c0 s5f0 s5z1 s5c1 s5f1
        clear hK K
        try clear hb
        try simp only [Act.put, List.setIfInBounds_toArray, List.set_cons_zero, List.set_cons_succ]
        generalize hGWA21 : World.setCell (World.setCell wd ⟨WA16.heap.size, 0, none⟩ (.bool bq)) ⟨WA16.heap.size, 1, none⟩ (.slice Aq nq cq) = WA21 at *
        clear hGWA21
        refine wpAnyH_ready (rs := [10]) (by kernel_rfl) (by simp) ?_
        refine AllReadyH.cons (o := ⟨none, _, _, _, _, _⟩) rfl (fun K hK => ?_) AllReadyH.nil
        obtain ⟨⟨s6z0, s6c0, s6f0⟩, ⟨s6z1, s6c1, s6f1⟩, _⟩ := hS6.2
        go_simp
        refine hK.out _ _ (by (repeat (first | (with_reducible exact hHeld28) | (refine Keeps.set ?_ (by simp <;> omega) (by simp <;> omega) _)))) (fun hHeld29 => ?_)
        replace hS5 := hS5.mv2 hHeld29 (by first | omega | (simp <;> omega)) (by simp <;> omega)
        (try replace zq := zq.store2 hHeld29 s6c0 s6c1)
        (try replace zr := zr.store2 hHeld29 s6c0 s6c1)
        replace hS6 := hHeld29.add2 s6z0 s6c0 s6f0 s6c1 s6f1
        clear s6z0 s6c0 s6f0 s6z1 s6c1 s6f1
        clear hK K
        try clear hb
        try simp only [Act.put, List.setIfInBounds_toArray, List.set_cons_zero, List.set_cons_succ]
        generalize hGWA22 : World.setCell (World.setCell WA21 ⟨wt.heap.size, 0, none⟩ (.bool br)) ⟨wt.heap.size, 1, none⟩ (.slice Ar nr cr) = WA22 at *
        clear hGWA22
        refine wpAnyH_done (by kernel_rfl) ?_ _
        have hHeld := hHeld29
        rotate_left 1
        exact AllReadyH.nil
        exact AllReadyH.nil
        refine AllReadyH.cons (o := ⟨some 5, _, _, _, _, _⟩) rfl (fun K hK => ?_) ?_
        have lo5 := hHeld1.1.size
        obtain ⟨⟨a5_z0, a5_c0, a5_f0⟩, ⟨a5_z1, a5_c1, a5_f1⟩, ⟨a5_z2, a5_c2, a5_f2⟩, ⟨a5_z3, a5_c3, a5_f3⟩, _⟩ := hHeld1.2
        (try simp at lo5); (try simp at a5_z0); (try simp at a5_z1); (try simp at a5_z2); (try simp at a5_z3)
        go_simp
        refine hK.out _ _ (by first | exact hHeld1.alloc _ | exact (hHeld1.alloc _).drew) (fun hHeld30 => ?_)
        (try replace hn2 := hn2.alloc2 hHeld30)
        first | have hS5 := newK2 hHeld30 | have hS5 := newK2d hHeld30
        clear hK K
        try clear hb
        try simp only [Act.put, List.setIfInBounds_toArray, List.set_cons_zero, List.set_cons_succ]
        generalize hGWA23 : World.alloc ws (.cells #[.bool false, .slice none 0 0] 28) = WA23 at *
        clear hGWA23
        refine wpAnyH_ready (rs := [2, 8]) (by kernel_rfl) (by simp) ?_
        refine AllReadyH.cons (o := ⟨some 17, _, _, _, _, _⟩) rfl (fun K hK => ?_) ?_
        go_simp
        (first | ((with_reducible refine (SZ.out _).mono ?_); rintro e ws ⟨A2, n2, c2, rfl, hb, hn2⟩) | ((with_reducible refine (MT.out _ _ hn2).mono ?_); rintro e wt ⟨bt, At, nt, ct, rfl, hb, zt⟩) | ((with_reducible refine (DR.out _ _ _ (HZ.out.below (by first | exact hHeld0.bel | exact hHeld1.bel | exact hHeld2.bel | exact hHeld3.bel | exact hHeld4.bel | exact hHeld5.bel | exact hHeld6.bel | exact hHeld7.bel | exact hHeld8.bel | exact hHeld9.bel | exact hHeld10.bel | exact hHeld11.bel | exact hHeld12.bel | exact hHeld13.bel | exact hHeld14.bel | exact hHeld15.bel | exact hHeld16.bel | exact hHeld17.bel | exact hHeld18.bel | exact hHeld19.bel | exact hHeld20.bel | exact hHeld21.bel | exact hHeld22.bel | exact hHeld23.bel | exact hHeld24.bel | exact hHeld25.bel | exact hHeld26.bel | exact hHeld27.bel | exact hHeld28.bel | exact hHeld29.bel | exact hHeld30.bel | exact hHeld31.bel | exact hHeld32.bel | exact hHeld33.bel | exact hHeld34.bel | exact hHeld35.bel | exact hHeld36.bel | exact hHeld37.bel | exact hHeld38.bel | exact hHeld39.bel | exact hHeld40.bel | exact hHeld41.bel | exact hHeld42.bel | exact hHeld43.bel | exact hHeld44.bel | exact hHeld45.bel | exact hHeld46.bel | exact hHeld47.bel | exact hHeld48.bel | exact hHeld49.bel | exact hHeld50.bel | exact hHeld51.bel | exact hHeld52.bel | exact hHeld53.bel | exact hHeld54.bel | exact hHeld55.bel | exact hHeld56.bel | exact hHeld57.bel | exact hHeld58.bel | exact hHeld59.bel | exact hHeld60.bel | exact hHeld61.bel | exact hHeld62.bel | exact hHeld63.bel | exact hHeld64.bel | exact hHeld65.bel | exact hHeld66.bel | exact hHeld67.bel | exact hHeld68.bel | exact hHeld69.bel | exact hHeld70.bel | exact hHeld71.bel | exact hHeld72.bel | exact hHeld73.bel | exact hHeld74.bel | exact hHeld75.bel | exact hHeld76.bel | exact hHeld77.bel | exact hHeld78.bel | exact hHeld79.bel | exact hHeld80.bel | exact hHeld81.bel | exact hHeld82.bel | exact hHeld83.bel | exact hHeld84.bel | exact hHeld85.bel | exact hHeld86.bel | exact hHeld87.bel | exact hHeld88.bel | exact hHeld89.bel | exact hHeld90.bel | exact hHeld91.bel | exact hHeld92.bel | exact hHeld93.bel | exact hHeld94.bel | exact hHeld95.bel | exact hHeld96.bel | exact hHeld97.bel | exact hHeld98.bel | exact hHeld99.bel | exact hHeld100.bel | exact hHeld101.bel | exact hHeld102.bel | exact hHeld103.bel | exact hHeld104.bel | exact hHeld105.bel | exact hHeld106.bel | exact hHeld107.bel | exact hHeld108.bel | exact hHeld109.bel | exact hHeld110.bel | exact hHeld111.bel | exact hHeld112.bel | exact hHeld113.bel | exact hHeld114.bel | exact hHeld115.bel | exact hHeld116.bel | exact hHeld117.bel | exact hHeld118.bel | exact hHeld119.bel | exact hHeld120.bel | exact hHeld121.bel | exact hHeld122.bel | exact hHeld123.bel | exact hHeld124.bel | exact hHeld125.bel | exact hHeld126.bel | exact hHeld127.bel | exact hHeld128.bel | exact hHeld129.bel)) zt).mono ?_); rintro e wd ⟨bq, Aq, nq, cq, br, Ar, nr, cr, rfl, hb, zq, zr⟩))
        refine hK.out _ _ (hHeld30.next hb) (fun hHeld31 => ?_)
        replace hS5 := hS5.next hb
        (try replace hn2 := hn2.below hb)
        clear hK K
        try clear hb
        try simp only [Act.put, List.setIfInBounds_toArray, List.set_cons_zero, List.set_cons_succ]
        refine wpAnyH_ready (rs := [3, 8]) (by kernel_rfl) (by simp) ?_
        refine AllReadyH.cons (o := ⟨some 18, _, _, _, _, _⟩) rfl (fun K hK => ?_) ?_
        go_simp
        (first | ((with_reducible refine (SZ.out _).mono ?_); rintro e ws ⟨A2, n2, c2, rfl, hb, hn2⟩) | ((with_reducible refine (MT.out _ _ hn2).mono ?_); rintro e wt ⟨bt, At, nt, ct, rfl, hb, zt⟩) | ((with_reducible refine (DR.out _ _ _ (HZ.out.below (by first | exact hHeld0.bel | exact hHeld1.bel | exact hHeld2.bel | exact hHeld3.bel | exact hHeld4.bel | exact hHeld5.bel | exact hHeld6.bel | exact hHeld7.bel | exact hHeld8.bel | exact hHeld9.bel | exact hHeld10.bel | exact hHeld11.bel | exact hHeld12.bel | exact hHeld13.bel | exact hHeld14.bel | exact hHeld15.bel | exact hHeld16.bel | exact hHeld17.bel | exact hHeld18.bel | exact hHeld19.bel | exact hHeld20.bel | exact hHeld21.bel | exact hHeld22.bel | exact hHeld23.bel | exact hHeld24.bel | exact hHeld25.bel | exact hHeld26.bel | exact hHeld27.bel | exact hHeld28.bel | exact hHeld29.bel | exact hHeld30.bel | exact hHeld31.bel | exact hHeld32.bel | exact hHeld33.bel | exact hHeld34.bel | exact hHeld35.bel | exact hHeld36.bel | exact hHeld37.bel | exact hHeld38.bel | exact hHeld39.bel | exact hHeld40.bel | exact hHeld41.bel | exact hHeld42.bel | exact hHeld43.bel | exact hHeld44.bel | exact hHeld45.bel | exact hHeld46.bel | exact hHeld47.bel | exact hHeld48.bel | exact hHeld49.bel | exact hHeld50.bel | exact hHeld51.bel | exact hHeld52.bel | exact hHeld53.bel | exact hHeld54.bel | exact hHeld55.bel | exact hHeld56.bel | exact hHeld57.bel | exact hHeld58.bel | exact hHeld59.bel | exact hHeld60.bel | exact hHeld61.bel | exact hHeld62.bel | exact hHeld63.bel | exact hHeld64.bel | exact hHeld65.bel | exact hHeld66.bel | exact hHeld67.bel | exact hHeld68.bel | exact hHeld69.bel | exact hHeld70.bel | exact hHeld71.bel | exact hHeld72.bel | exact hHeld73.bel | exact hHeld74.bel | exact hHeld75.bel | exact hHeld76.bel | exact hHeld77.bel | exact hHeld78.bel | exact hHeld79.bel | exact hHeld80.bel | exact hHeld81.bel | exact hHeld82.bel | exact hHeld83.bel | exact hHeld84.bel | exact hHeld85.bel | exact hHeld86.bel | exact hHeld87.bel | exact hHeld88.bel | exact hHeld89.bel | exact hHeld90.bel | exact hHeld91.bel | exact hHeld92.bel | exact hHeld93.bel | exact hHeld94.bel | exact hHeld95.bel | exact hHeld96.bel | exact hHeld97.bel | exact hHeld98.bel | exact hHeld99.bel | exact hHeld100.bel | exact hHeld101.bel | exact hHeld102.bel | exact hHeld103.bel | exact hHeld104.bel | exact hHeld105.bel | exact hHeld106.bel | exact hHeld107.bel | exact hHeld108.bel | exact hHeld109.bel | exact hHeld110.bel | exact hHeld111.bel | exact hHeld112.bel | exact hHeld113.bel | exact hHeld114.bel | exact hHeld115.bel | exact hHeld116.bel | exact hHeld117.bel | exact hHeld118.bel | exact hHeld119.bel | exact hHeld120.bel | exact hHeld121.bel | exact hHeld122.bel | exact hHeld123.bel | exact hHeld124.bel | exact hHeld125.bel | exact hHeld126.bel | exact hHeld127.bel | exact hHeld128.bel | exact hHeld129.bel)) zt).mono ?_); rintro e wd ⟨bq, Aq, nq, cq, br, Ar, nr, cr, rfl, hb, zq, zr⟩))
        refine hK.out _ _ (hHeld31.next hb) (fun hHeld32 => ?_)
        replace hS5 := hS5.next hb
        (try replace zt := zt.below hb)
        clear hK K
        try clear hb
        try simp only [Act.put, List.setIfInBounds_toArray, List.set_cons_zero, List.set_cons_succ]
        refine wpAnyH_take (i := 4) (oi := ⟨some 14, _, _, _, _, _⟩) (v := ?_) rfl (by kernel_rfl) (by kernel_rfl) (by kernel_rfl) (fun _ _ _ h => h) (Or.inl ⟨by rfl, ?_⟩) (by assumption) ?_
        rotate_left
        · intro wq hSw; go_simp; (try with_reducible rfl)
        try simp only [Act.put, List.setIfInBounds_toArray, List.set_cons_zero, List.set_cons_succ]
        refine wpAnyH_take (i := 5) (oi := ⟨some 19, _, _, _, _, _⟩) (v := ?_) rfl (by kernel_rfl) (by kernel_rfl) (by kernel_rfl) (fun _ _ _ h => h) (Or.inl ⟨by rfl, ?_⟩) (by assumption) ?_
        rotate_left
        · intro wq hSw; go_simp; (try with_reducible rfl)
        try simp only [Act.put, List.setIfInBounds_toArray, List.set_cons_zero, List.set_cons_succ]
        refine wpAnyH_take (i := 6) (oi := ⟨some 20, _, _, _, _, _⟩) (v := ?_) rfl (by kernel_rfl) (by kernel_rfl) (by kernel_rfl) (fun _ _ _ h => h) (Or.inl ⟨by rfl, ?_⟩) (by assumption) ?_
        rotate_left
        · intro wq hSw; go_simp; (try with_reducible rfl)
        try simp only [Act.put, List.setIfInBounds_toArray, List.set_cons_zero, List.set_cons_succ]
        refine wpAnyH_ready (rs := [8]) (by kernel_rfl) (by simp) ?_
        refine AllReadyH.cons (o := ⟨some 6, _, _, _, _, _⟩) rfl (fun K hK => ?_) AllReadyH.nil
        have hne5_6 := hS5.2.1.1
        have lo6 := hHeld32.1.size
        obtain ⟨⟨a6_z0, a6_c0, a6_f0⟩, ⟨a6_z1, a6_c1, a6_f1⟩, ⟨a6_z2, a6_c2, a6_f2⟩, ⟨a6_z3, a6_c3, a6_f3⟩, _⟩ := hHeld32.2
        (try simp at lo6); (try simp at hne5_6); (try simp at a6_z0); (try simp at a6_z1); (try simp at a6_z2); (try simp at a6_z3)
        go_simp
        refine hK.out _ _ (by first | exact hHeld32.alloc _ | exact (hHeld32.alloc _).drew) (fun hHeld33 => ?_)
        first | replace hS5 := hS5.alloc2e hHeld33 | replace hS5 := hS5.alloc2 hHeld33
        (try replace zq := zq.alloc2 hHeld33)
        (try replace zr := zr.alloc2 hHeld33)
        first | have hS6 := newK2 hHeld33 | have hS6 := newK2d hHeld33
        clear hK K
        try clear hb
        try simp only [Act.put, List.setIfInBounds_toArray, List.set_cons_zero, List.set_cons_succ]
        generalize hGWA24 : World.alloc wd (.cells #[.bool false, .slice none 0 0] 28) = WA24 at *
        clear hGWA24
        refine wpAnyH_ready (rs := [9]) (by kernel_rfl) (by simp) ?_
        refine AllReadyH.cons (o := ⟨none, _, _, _, _, _⟩) rfl (fun K hK => ?_) AllReadyH.nil
        obtain ⟨⟨s5z0, s5c0, s5f0⟩, ⟨s5z1, s5c1, s5f1⟩, _⟩ := hS5.2
        go_simp
        refine hK.out _ _ (by (repeat (first | (with_reducible exact hHeld33) | (refine Keeps.set ?_ (by simp <;> omega) (by simp <;> omega) _)))) (fun hHeld34 => ?_)
        replace hS6 := hS6.mv2 hHeld34 (by first | omega | (simp <;> omega)) (by simp <;> omega)
        (try replace zq := zq.store2 hHeld34 s5c0 s5c1)
        (try replace zr := zr.store2 hHeld34 s5c0 s5c1)
        replace hS5 := hHeld34.add2 s5z0 s5c0 s5f0 s5c1 s5f1
        clear s5z0 s5c0 s5f0 s5z1 s5c1 s5f1
        clear hK K
        try clear hb
        try simp only [Act.put, List.setIfInBounds_toArray, List.set_cons_zero, List.set_cons_succ]
        generalize hGWA25 : World.setCell (World.setCell WA24 ⟨ws.heap.size, 0, none⟩ (.bool bq)) ⟨ws.heap.size, 1, none⟩ (.slice Aq nq cq) = WA25 at *
        clear hGWA25
        refine wpAnyH_ready (rs := [10]) (by kernel_rfl) (by simp) ?_
        refine AllReadyH.cons (o := ⟨none, _, _, _, _, _⟩) rfl (fun K hK => ?_) AllReadyH.nil
        obtain ⟨⟨s6z0, s6c0, s6f0⟩, ⟨s6z1, s6c1, s6f1⟩, _⟩ := hS6.2
        go_simp
        refine hK.out _ _ (by (repeat (first | (with_reducible exact hHeld34) | (refine Keeps.set ?_ (by simp <;> omega) (by simp <;> omega) _)))) (fun hHeld35 => ?_)
        replace hS5 := hS5.mv2 hHeld35 (by first | omega | (simp <;> omega)) (by simp <;> omega)
        (try replace zq := zq.store2 hHeld35 s6c0 s6c1)
        (try replace zr := zr.store2 hHeld35 s6c0 s6c1)
        replace hS6 := hHeld35.add2 s6z0 s6c0 s6f0 s6c1 s6f1
        clear s6z0 s6c0 s6f0 s6z1 s6c1 s6f1
        clear hK K
        try clear hb
        try simp only [Act.put, List.setIfInBounds_toArray, List.set_cons_zero, List.set_cons_succ]
        generalize hGWA26 : World.setCell (World.setCell WA25 ⟨wd.heap.size, 0, none⟩ (.bool br)) ⟨wd.heap.size, 1, none⟩ (.slice Ar nr cr) = WA26 at *
        clear hGWA26
        refine wpAnyH_done (by kernel_rfl) ?_ _
        have hHeld := hHeld35
        rotate_left 1
        refine AllReadyH.cons (o := ⟨some 6, _, _, _, _, _⟩) rfl (fun K hK => ?_) ?_
        have hne5_6 := hS5.2.1.1
        have lo6 := hHeld31.1.size
        obtain ⟨⟨a6_z0, a6_c0, a6_f0⟩, ⟨a6_z1, a6_c1, a6_f1⟩, ⟨a6_z2, a6_c2, a6_f2⟩, ⟨a6_z3, a6_c3, a6_f3⟩, _⟩ := hHeld31.2
        (try simp at lo6); (try simp at hne5_6); (try simp at a6_z0); (try simp at a6_z1); (try simp at a6_z2); (try simp at a6_z3)
        go_simp
        refine hK.out _ _ (by first | exact hHeld31.alloc _ | exact (hHeld31.alloc _).drew) (fun hHeld36 => ?_)
        first | replace hS5 := hS5.alloc2e hHeld36 | replace hS5 := hS5.alloc2 hHeld36
        (try replace zt := zt.alloc2 hHeld36)
        first | have hS6 := newK2 hHeld36 | have hS6 := newK2d hHeld36
        clear hK K
        try clear hb
        try simp only [Act.put, List.setIfInBounds_toArray, List.set_cons_zero, List.set_cons_succ]
        generalize hGWA27 : World.alloc wt (.cells #[.bool false, .slice none 0 0] 28) = WA27 at *
        clear hGWA27
        refine wpAnyH_ready (rs := [3]) (by kernel_rfl) (by simp) ?_
        refine AllReadyH.cons (o := ⟨some 18, _, _, _, _, _⟩) rfl (fun K hK => ?_) AllReadyH.nil
        go_simp
        (first | ((with_reducible refine (SZ.out _).mono ?_); rintro e ws ⟨A2, n2, c2, rfl, hb, hn2⟩) | ((with_reducible refine (MT.out _ _ hn2).mono ?_); rintro e wt ⟨bt, At, nt, ct, rfl, hb, zt⟩) | ((with_reducible refine (DR.out _ _ _ (HZ.out.below (by first | exact hHeld0.bel | exact hHeld1.bel | exact hHeld2.bel | exact hHeld3.bel | exact hHeld4.bel | exact hHeld5.bel | exact hHeld6.bel | exact hHeld7.bel | exact hHeld8.bel | exact hHeld9.bel | exact hHeld10.bel | exact hHeld11.bel | exact hHeld12.bel | exact hHeld13.bel | exact hHeld14.bel | exact hHeld15.bel | exact hHeld16.bel | exact hHeld17.bel | exact hHeld18.bel | exact hHeld19.bel | exact hHeld20.bel | exact hHeld21.bel | exact hHeld22.bel | exact hHeld23.bel | exact hHeld24.bel | exact hHeld25.bel | exact hHeld26.bel | exact hHeld27.bel | exact hHeld28.bel | exact hHeld29.bel | exact hHeld30.bel | exact hHeld31.bel | exact hHeld32.bel | exact hHeld33.bel | exact hHeld34.bel | exact hHeld35.bel | exact hHeld36.bel | exact hHeld37.bel | exact hHeld38.bel | exact hHeld39.bel | exact hHeld40.bel | exact hHeld41.bel | exact hHeld42.bel | exact hHeld43.bel | exact hHeld44.bel | exact hHeld45.bel | exact hHeld46.bel | exact hHeld47.bel | exact hHeld48.bel | exact hHeld49.bel | exact hHeld50.bel | exact hHeld51.bel | exact hHeld52.bel | exact hHeld53.bel | exact hHeld54.bel | exact hHeld55.bel | exact hHeld56.bel | exact hHeld57.bel | exact hHeld58.bel | exact hHeld59.bel | exact hHeld60.bel | exact hHeld61.bel | exact hHeld62.bel | exact hHeld63.bel | exact hHeld64.bel | exact hHeld65.bel | exact hHeld66.bel | exact hHeld67.bel | exact hHeld68.bel | exact hHeld69.bel | exact hHeld70.bel | exact hHeld71.bel | exact hHeld72.bel | exact hHeld73.bel | exact hHeld74.bel | exact hHeld75.bel | exact hHeld76.bel | exact hHeld77.bel | exact hHeld78.bel | exact hHeld79.bel | exact hHeld80.bel | exact hHeld81.bel | exact hHeld82.bel | exact hHeld83.bel | exact hHeld84.bel | exact hHeld85.bel | exact hHeld86.bel | exact hHeld87.bel | exact hHeld88.bel | exact hHeld89.bel | exact hHeld90.bel | exact hHeld91.bel | exact hHeld92.bel | exact hHeld93.bel | exact hHeld94.bel | exact hHeld95.bel | exact hHeld96.bel | exact hHeld97.bel | exact hHeld98.bel | exact hHeld99.bel | exact hHeld100.bel | exact hHeld101.bel | exact hHeld102.bel | exact hHeld103.bel | exact hHeld104.bel | exact hHeld105.bel | exact hHeld106.bel | exact hHeld107.bel | exact hHeld108.bel | exact hHeld109.bel | exact hHeld110.bel | exact hHeld111.bel | exact hHeld112.bel | exact hHeld113.bel | exact hHeld114.bel | exact hHeld115.bel | exact hHeld116.bel | exact hHeld117.bel | exact hHeld118.bel | exact hHeld119.bel | exact hHeld120.bel | exact hHeld121.bel | exact hHeld122.bel | exact hHeld123.bel | exact hHeld124.bel | exact hHeld125.bel | exact hHeld126.bel | exact hHeld127.bel | exact hHeld128.bel | exact hHeld129.bel)) zt).mono ?_); rintro e wd ⟨bq, Aq, nq, cq, br, Ar, nr, cr, rfl, hb, zq, zr⟩))
        refine hK.out _ _ (hHeld36.next hb) (fun hHeld37 => ?_)
        replace hS5 := hS5.next hb
        replace hS6 := hS6.next hb
        (try replace zt := zt.below hb)
        clear hK K
        try clear hb
        try simp only [Act.put, List.setIfInBounds_toArray, List.set_cons_zero, List.set_cons_succ]
        refine wpAnyH_take (i := 4) (oi := ⟨some 14, _, _, _, _, _⟩) (v := ?_) rfl (by kernel_rfl) (by kernel_rfl) (by kernel_rfl) (fun _ _ _ h => h) (Or.inl ⟨by rfl, ?_⟩) (by assumption) ?_
        rotate_left
        · intro wq hSw; go_simp; (try with_reducible rfl)
        try simp only [Act.put, List.setIfInBounds_toArray, List.set_cons_zero, List.set_cons_succ]
        refine wpAnyH_take (i := 5) (oi := ⟨some 19, _, _, _, _, _⟩) (v := ?_) rfl (by kernel_rfl) (by kernel_rfl) (by kernel_rfl) (fun _ _ _ h => h) (Or.inl ⟨by rfl, ?_⟩) (by assumption) ?_
        rotate_left
        · intro wq hSw; go_simp; (try with_reducible rfl)
        try simp only [Act.put, List.setIfInBounds_toArray, List.set_cons_zero, List.set_cons_succ]
        refine wpAnyH_take (i := 6) (oi := ⟨some 20, _, _, _, _, _⟩) (v := ?_) rfl (by kernel_rfl) (by kernel_rfl) (by kernel_rfl) (fun _ _ _ h => h) (Or.inl ⟨by rfl, ?_⟩) (by assumption) ?_
        rotate_left
        · intro wq hSw; go_simp; (try with_reducible rfl)
        try simp only [Act.put, List.setIfInBounds_toArray, List.set_cons_zero, List.set_cons_succ]
        refine wpAnyH_ready (rs := [9]) (by kernel_rfl) (by simp) ?_
        refine AllReadyH.cons (o := ⟨none, _, _, _, _, _⟩) rfl (fun K hK => ?_) AllReadyH.nil
        obtain ⟨⟨s5z0, s5c0, s5f0⟩, ⟨s5z1, s5c1, s5f1⟩, _⟩ := hS5.2
        go_simp
        refine hK.out _ _ (by (repeat (first | (with_reducible exact hHeld37) | (refine Keeps.set ?_ (by simp <;> omega) (by simp <;> omega) _)))) (fun hHeld38 => ?_)
        replace hS6 := hS6.mv2 hHeld38 (by first | omega | (simp <;> omega)) (by simp <;> omega)
        (try replace zq := zq.store2 hHeld38 s5c0 s5c1)
        (try replace zr := zr.store2 hHeld38 s5c0 s5c1)
        replace hS5 := hHeld38.add2 s5z0 s5c0 s5f0 s5c1 s5f1
        clear s5z0 s5c0 s5f0 s5z1 s5c1 s5f1
        clear hK K
        try clear hb
        try simp only [Act.put, List.setIfInBounds_toArray, List.set_cons_zero, List.set_cons_succ]
        generalize hGWA28 : World.setCell (World.setCell wd ⟨ws.heap.size, 0, none⟩ (.bool bq)) ⟨ws.heap.size, 1, none⟩ (.slice Aq nq cq) = WA28 at *
        clear hGWA28
        refine wpAnyH_ready (rs := [10]) (by kernel_rfl) (by simp) ?_
        refine AllReadyH.cons (o := ⟨none, _, _, _, _, _⟩) rfl (fun K hK => ?_) AllReadyH.nil
        obtain ⟨⟨s6z0, s6c0, s6f0⟩, ⟨s6z1, s6c1, s6f1⟩, _⟩ := hS6.2
        go_simp
        refine hK.out _ _ (by (repeat (first | (with_reducible exact hHeld38) | (refine Keeps.set ?_ (by simp <;> omega) (by simp <;> omega) _)))) (fun hHeld39 => ?_)
        replace hS5 := hS5.mv2 hHeld39 (by first | omega | (simp <;> omega)) (by simp <;> omega)
        (try replace zq := zq.store2 hHeld39 s6c0 s6c1)
        (try replace zr := zr.store2 hHeld39 s6c0 s6c1)
        replace hS6 := hHeld39.add2 s6z0 s6c0 s6f0 s6c1 s6f1
        clear s6z0 s6c0 s6f0 s6z1 s6c1 s6f1
        clear hK K
        try clear hb
        try simp only [Act.put, List.setIfInBounds_toArray, List.set_cons_zero, List.set_cons_succ]
        generalize hGWA29 : World.setCell (World.setCell WA28 ⟨wt.heap.size, 0, none⟩ (.bool br)) ⟨wt.heap.size, 1, none⟩ (.slice Ar nr cr) = WA29 at *
        clear hGWA29
        refine wpAnyH_done (by kernel_rfl) ?_ _
        have hHeld := hHeld39
        rotate_left 1
        exact AllReadyH.nil
        refine AllReadyH.cons (o := ⟨some 6, _, _, _, _, _⟩) rfl (fun K hK => ?_) ?_
        have hne5_6 := hS5.2.1.1
        have lo6 := hHeld30.1.size
        obtain ⟨⟨a6_z0, a6_c0, a6_f0⟩, ⟨a6_z1, a6_c1, a6_f1⟩, ⟨a6_z2, a6_c2, a6_f2⟩, ⟨a6_z3, a6_c3, a6_f3⟩, _⟩ := hHeld30.2
        (try simp at lo6); (try simp at hne5_6); (try simp at a6_z0); (try simp at a6_z1); (try simp at a6_z2); (try simp at a6_z3)
        go_simp
        refine hK.out _ _ (by first | exact hHeld30.alloc _ | exact (hHeld30.alloc _).drew) (fun hHeld40 => ?_)
        first | replace hS5 := hS5.alloc2e hHeld40 | replace hS5 := hS5.alloc2 hHeld40
        (try replace hn2 := hn2.alloc2 hHeld40)
        first | have hS6 := newK2 hHeld40 | have hS6 := newK2d hHeld40
        clear hK K
        try clear hb
        try simp only [Act.put, List.setIfInBounds_toArray, List.set_cons_zero, List.set_cons_succ]
        generalize hGWA30 : World.alloc WA23 (.cells #[.bool false, .slice none 0 0] 28) = WA30 at *
        clear hGWA30
        refine wpAnyH_ready (rs := [2]) (by kernel_rfl) (by simp) ?_
        refine AllReadyH.cons (o := ⟨some 17, _, _, _, _, _⟩) rfl (fun K hK => ?_) AllReadyH.nil
        go_simp
        (first | ((with_reducible refine (SZ.out _).mono ?_); rintro e ws ⟨A2, n2, c2, rfl, hb, hn2⟩) | ((with_reducible refine (MT.out _ _ hn2).mono ?_); rintro e wt ⟨bt, At, nt, ct, rfl, hb, zt⟩) | ((with_reducible refine (DR.out _ _ _ (HZ.out.below (by first | exact hHeld0.bel | exact hHeld1.bel | exact hHeld2.bel | exact hHeld3.bel | exact hHeld4.bel | exact hHeld5.bel | exact hHeld6.bel | exact hHeld7.bel | exact hHeld8.bel | exact hHeld9.bel | exact hHeld10.bel | exact hHeld11.bel | exact hHeld12.bel | exact hHeld13.bel | exact hHeld14.bel | exact hHeld15.bel | exact hHeld16.bel | exact hHeld17.bel | exact hHeld18.bel | exact hHeld19.bel | exact hHeld20.bel | exact hHeld21.bel | exact hHeld22.bel | exact hHeld23.bel | exact hHeld24.bel | exact hHeld25.bel | exact hHeld26.bel | exact hHeld27.bel | exact hHeld28.bel | exact hHeld29.bel | exact hHeld30.bel | exact hHeld31.bel | exact hHeld32.bel | exact hHeld33.bel | exact hHeld34.bel | exact hHeld35.bel | exact hHeld36.bel | exact hHeld37.bel | exact hHeld38.bel | exact hHeld39.bel | exact hHeld40.bel | exact hHeld41.bel | exact hHeld42.bel | exact hHeld43.bel | exact hHeld44.bel | exact hHeld45.bel | exact hHeld46.bel | exact hHeld47.bel | exact hHeld48.bel | exact hHeld49.bel | exact hHeld50.bel | exact hHeld51.bel | exact hHeld52.bel | exact hHeld53.bel | exact hHeld54.bel | exact hHeld55.bel | exact hHeld56.bel | exact hHeld57.bel | exact hHeld58.bel | exact hHeld59.bel | exact hHeld60.bel | exact hHeld61.bel | exact hHeld62.bel | exact hHeld63.bel | exact hHeld64.bel | exact hHeld65.bel | exact hHeld66.bel | exact hHeld67.bel | exact hHeld68.bel | exact hHeld69.bel | exact hHeld70.bel | exact hHeld71.bel | exact hHeld72.bel | exact hHeld73.bel | exact hHeld74.bel | exact hHeld75.bel | exact hHeld76.bel | exact hHeld77.bel | exact hHeld78.bel | exact hHeld79.bel | exact hHeld80.bel | exact hHeld81.bel | exact hHeld82.bel | exact hHeld83.bel | exact hHeld84.bel | exact hHeld85.bel | exact hHeld86.bel | exact hHeld87.bel | exact hHeld88.bel | exact hHeld89.bel | exact hHeld90.bel | exact hHeld91.bel | exact hHeld92.bel | exact hHeld93.bel | exact hHeld94.bel | exact hHeld95.bel | exact hHeld96.bel | exact hHeld97.bel | exact hHeld98.bel | exact hHeld99.bel | exact hHeld100.bel | exact hHeld101.bel | exact hHeld102.bel | exact hHeld103.bel | exact hHeld104.bel | exact hHeld105.bel | exact hHeld106.bel | exact hHeld107.bel | exact hHeld108.bel | exact hHeld109.bel | exact hHeld110.bel | exact hHeld111.bel | exact hHeld112.bel | exact hHeld113.bel | exact hHeld114.bel | exact hHeld115.bel | exact hHeld116.bel | exact hHeld117.bel | exact hHeld118.bel | exact hHeld119.bel | exact hHeld120.bel | exact hHeld121.bel | exact hHeld122.bel | exact hHeld123.bel | exact hHeld124.bel | exact hHeld125.bel | exact hHeld126.bel | exact hHeld127.bel | exact hHeld128.bel | exact hHeld129.bel)) zt).mono ?_); rintro e wd ⟨bq, Aq, nq, cq, br, Ar, nr, cr, rfl, hb, zq, zr⟩))
        refine hK.out _ _ (hHeld40.next hb) (fun hHeld41 => ?_)
        replace hS5 := hS5.next hb
        replace hS6 := hS6.next hb
        (try replace hn2 := hn2.below hb)
        clear hK K
        try clear hb
        try simp only [Act.put, List.setIfInBounds_toArray, List.set_cons_zero, List.set_cons_succ]
        refine wpAnyH_ready (rs := [3]) (by kernel_rfl) (by simp) ?_
        refine AllReadyH.cons (o := ⟨some 18, _, _, _, _, _⟩) rfl (fun K hK => ?_) AllReadyH.nil
        go_simp
        (first | ((with_reducible refine (SZ.out _).mono ?_); rintro e ws ⟨A2, n2, c2, rfl, hb, hn2⟩) | ((with_reducible refine (MT.out _ _ hn2).mono ?_); rintro e wt ⟨bt, At, nt, ct, rfl, hb, zt⟩) | ((with_reducible refine (DR.out _ _ _ (HZ.out.below (by first | exact hHeld0.bel | exact hHeld1.bel | exact hHeld2.bel | exact hHeld3.bel | exact hHeld4.bel | exact hHeld5.bel | exact hHeld6.bel | exact hHeld7.bel | exact hHeld8.bel | exact hHeld9.bel | exact hHeld10.bel | exact hHeld11.bel | exact hHeld12.bel | exact hHeld13.bel | exact hHeld14.bel | exact hHeld15.bel | exact hHeld16.bel | exact hHeld17.bel | exact hHeld18.bel | exact hHeld19.bel | exact hHeld20.bel | exact hHeld21.bel | exact hHeld22.bel | exact hHeld23.bel | exact hHeld24.bel | exact hHeld25.bel | exact hHeld26.bel | exact hHeld27.bel | exact hHeld28.bel | exact hHeld29.bel | exact hHeld30.bel | exact hHeld31.bel | exact hHeld32.bel | exact hHeld33.bel | exact hHeld34.bel | exact hHeld35.bel | exact hHeld36.bel | exact hHeld37.bel | exact hHeld38.bel | exact hHeld39.bel | exact hHeld40.bel | exact hHeld41.bel | exact hHeld42.bel | exact hHeld43.bel | exact hHeld44.bel | exact hHeld45.bel | exact hHeld46.bel | exact hHeld47.bel | exact hHeld48.bel | exact hHeld49.bel | exact hHeld50.bel | exact hHeld51.bel | exact hHeld52.bel | exact hHeld53.bel | exact hHeld54.bel | exact hHeld55.bel | exact hHeld56.bel | exact hHeld57.bel | exact hHeld58.bel | exact hHeld59.bel | exact hHeld60.bel | exact hHeld61.bel | exact hHeld62.bel | exact hHeld63.bel | exact hHeld64.bel | exact hHeld65.bel | exact hHeld66.bel | exact hHeld67.bel | exact hHeld68.bel | exact hHeld69.bel | exact hHeld70.bel | exact hHeld71.bel | exact hHeld72.bel | exact hHeld73.bel | exact hHeld74.bel | exact hHeld75.bel | exact hHeld76.bel | exact hHeld77.bel | exact hHeld78.bel | exact hHeld79.bel | exact hHeld80.bel | exact hHeld81.bel | exact hHeld82.bel | exact hHeld83.bel | exact hHeld84.bel | exact hHeld85.bel | exact hHeld86.bel | exact hHeld87.bel | exact hHeld88.bel | exact hHeld89.bel | exact hHeld90.bel | exact hHeld91.bel | exact hHeld92.bel | exact hHeld93.bel | exact hHeld94.bel | exact hHeld95.bel | exact hHeld96.bel | exact hHeld97.bel | exact hHeld98.bel | exact hHeld99.bel | exact hHeld100.bel | exact hHeld101.bel | exact hHeld102.bel | exact hHeld103.bel | exact hHeld104.bel | exact hHeld105.bel | exact hHeld106.bel | exact hHeld107.bel | exact hHeld108.bel | exact hHeld109.bel | exact hHeld110.bel | exact hHeld111.bel | exact hHeld112.bel | exact hHeld113.bel | exact hHeld114.bel | exact hHeld115.bel | exact hHeld116.bel | exact hHeld117.bel | exact hHeld118.bel | exact hHeld119.bel | exact hHeld120.bel | exact hHeld121.bel | exact hHeld122.bel | exact hHeld123.bel | exact hHeld124.bel | exact hHeld125.bel | exact hHeld126.bel | exact hHeld127.bel | exact hHeld128.bel | exact hHeld129.bel)) zt).mono ?_); rintro e wd ⟨bq, Aq, nq, cq, br, Ar, nr, cr, rfl, hb, zq, zr⟩))
        refine hK.out _ _ (hHeld41.next hb) (fun hHeld42 => ?_)
        replace hS5 := hS5.next hb
        replace hS6 := hS6.next hb
        (try replace zt := zt.below hb)
        clear hK K
        try clear hb
        try simp only [Act.put, List.setIfInBounds_toArray, List.set_cons_zero, List.set_cons_succ]
        refine wpAnyH_take (i := 4) (oi := ⟨some 14, _, _, _, _, _⟩) (v := ?_) rfl (by kernel_rfl) (by kernel_rfl) (by kernel_rfl) (fun _ _ _ h => h) (Or.inl ⟨by rfl, ?_⟩) (by assumption) ?_
        rotate_left
        · intro wq hSw; go_simp; (try with_reducible rfl)
        try simp only [Act.put, List.setIfInBounds_toArray, List.set_cons_zero, List.set_cons_succ]
        refine wpAnyH_take (i := 5) (oi := ⟨some 19, _, _, _, _, _⟩) (v := ?_) rfl (by kernel_rfl) (by kernel_rfl) (by kernel_rfl) (fun _ _ _ h => h) (Or.inl ⟨by rfl, ?_⟩) (by assumption) ?_
        rotate_left
        · intro wq hSw; go_simp; (try with_reducible rfl)
        try simp only [Act.put, List.setIfInBounds_toArray, List.set_cons_zero, List.set_cons_succ]
        refine wpAnyH_take (i := 6) (oi := ⟨some 20, _, _, _, _, _⟩) (v := ?_) rfl (by kernel_rfl) (by kernel_rfl) (by kernel_rfl) (fun _ _ _ h => h) (Or.inl ⟨by rfl, ?_⟩) (by assumption) ?_
        rotate_left
        · intro wq hSw; go_simp; (try with_reducible rfl)
        try simp only [Act.put, List.setIfInBounds_toArray, List.set_cons_zero, List.set_cons_succ]
        refine wpAnyH_ready (rs := [9]) (by kernel_rfl) (by simp) ?_
        refine AllReadyH.cons (o := ⟨none, _, _, _, _, _⟩) rfl (fun K hK => ?_) AllReadyH.nil
        obtain ⟨⟨s5z0, s5c0, s5f0⟩, ⟨s5z1, s5c1, s5f1⟩, _⟩ := hS5.2
        go_simp
        refine hK.out _ _ (by (repeat (first | (with_reducible exact hHeld42) | (refine Keeps.set ?_ (by simp <;> omega) (by simp <;> omega) _)))) (fun hHeld43 => ?_)
        replace hS6 := hS6.mv2 hHeld43 (by first | omega | (simp <;> omega)) (by simp <;> omega)
        (try replace zq := zq.store2 hHeld43 s5c0 s5c1)
        (try replace zr := zr.store2 hHeld43 s5c0 s5c1)
        replace hS5 := hHeld43.add2 s5z0 s5c0 s5f0 s5c1 s5f1
        clear s5z0 s5c0 s5f0 s5z1 s5c1 s5f1
        clear hK K
        try clear hb
        try simp only [Act.put, List.setIfInBounds_toArray, List.set_cons_zero, List.set_cons_succ]
        generalize hGWA31 : World.setCell (World.setCell wd ⟨ws.heap.size, 0, none⟩ (.bool bq)) ⟨ws.heap.size, 1, none⟩ (.slice Aq nq cq) = WA31 at *
        clear hGWA31
        refine wpAnyH_ready (rs := [10]) (by kernel_rfl) (by simp) ?_
        refine AllReadyH.cons (o := ⟨none, _, _, _, _, _⟩) rfl (fun K hK => ?_) AllReadyH.nil
        obtain ⟨⟨s6z0, s6c0, s6f0⟩, ⟨s6z1, s6c1, s6f1⟩, _⟩ := hS6.2
        go_simp
        refine hK.out _ _ (by (repeat (first | (with_reducible exact hHeld43) | (refine Keeps.set ?_ (by simp <;> omega) (by simp <;> omega) _)))) (fun hHeld44 => ?_)
        replace hS5 := hS5.mv2 hHeld44 (by first | omega | (simp <;> omega)) (by simp <;> omega)
        (try replace zq := zq.store2 hHeld44 s6c0 s6c1)
        (try replace zr := zr.store2 hHeld44 s6c0 s6c1)
        replace hS6 := hHeld44.add2 s6z0 s6c0 s6f0 s6c1 s6f1
        clear s6z0 s6c0 s6f0 s6z1 s6c1 s6f1
        clear hK K
        try clear hb
        try simp only [Act.put, List.setIfInBounds_toArray, List.set_cons_zero, List.set_cons_succ]
        generalize hGWA32 : World.setCell (World.setCell WA31 ⟨WA23.heap.size, 0, none⟩ (.bool br)) ⟨WA23.heap.size, 1, none⟩ (.slice Ar nr cr) = WA32 at *
        clear hGWA32
        refine wpAnyH_done (by kernel_rfl) ?_ _
        have hHeld := hHeld44
        rotate_left 1
        exact AllReadyH.nil
        refine AllReadyH.cons (o := ⟨some 6, _, _, _, _, _⟩) rfl (fun K hK => ?_) ?_
        have lo6 := hHeld1.1.size
        obtain ⟨⟨a6_z0, a6_c0, a6_f0⟩, ⟨a6_z1, a6_c1, a6_f1⟩, ⟨a6_z2, a6_c2, a6_f2⟩, ⟨a6_z3, a6_c3, a6_f3⟩, _⟩ := hHeld1.2
        (try simp at lo6); (try simp at a6_z0); (try simp at a6_z1); (try simp at a6_z2); (try simp at a6_z3)
        go_simp
        refine hK.out _ _ (by first | exact hHeld1.alloc _ | exact (hHeld1.alloc _).drew) (fun hHeld45 => ?_)
        (try replace hn2 := hn2.alloc2 hHeld45)
        first | have hS6 := newK2 hHeld45 | have hS6 := newK2d hHeld45
        clear hK K
        try clear hb
        try simp only [Act.put, List.setIfInBounds_toArray, List.set_cons_zero, List.set_cons_succ]
        generalize hGWA33 : World.alloc ws (.cells #[.bool false, .slice none 0 0] 28) = WA33 at *
        clear hGWA33
        refine wpAnyH_ready (rs := [2, 7]) (by kernel_rfl) (by simp) ?_
        refine AllReadyH.cons (o := ⟨some 17, _, _, _, _, _⟩) rfl (fun K hK => ?_) ?_
        go_simp
        (first | ((with_reducible refine (SZ.out _).mono ?_); rintro e ws ⟨A2, n2, c2, rfl, hb, hn2⟩) | ((with_reducible refine (MT.out _ _ hn2).mono ?_); rintro e wt ⟨bt, At, nt, ct, rfl, hb, zt⟩) | ((with_reducible refine (DR.out _ _ _ (HZ.out.below (by first | exact hHeld0.bel | exact hHeld1.bel | exact hHeld2.bel | exact hHeld3.bel | exact hHeld4.bel | exact hHeld5.bel | exact hHeld6.bel | exact hHeld7.bel | exact hHeld8.bel | exact hHeld9.bel | exact hHeld10.bel | exact hHeld11.bel | exact hHeld12.bel | exact hHeld13.bel | exact hHeld14.bel | exact hHeld15.bel | exact hHeld16.bel | exact hHeld17.bel | exact hHeld18.bel | exact hHeld19.bel | exact hHeld20.bel | exact hHeld21.bel | exact hHeld22.bel | exact hHeld23.bel | exact hHeld24.bel | exact hHeld25.bel | exact hHeld26.bel | exact hHeld27.bel | exact hHeld28.bel | exact hHeld29.bel | exact hHeld30.bel | exact hHeld31.bel | exact hHeld32.bel | exact hHeld33.bel | exact hHeld34.bel | exact hHeld35.bel | exact hHeld36.bel | exact hHeld37.bel | exact hHeld38.bel | exact hHeld39.bel | exact hHeld40.bel | exact hHeld41.bel | exact hHeld42.bel | exact hHeld43.bel | exact hHeld44.bel | exact hHeld45.bel | exact hHeld46.bel | exact hHeld47.bel | exact hHeld48.bel | exact hHeld49.bel | exact hHeld50.bel | exact hHeld51.bel | exact hHeld52.bel | exact hHeld53.bel | exact hHeld54.bel | exact hHeld55.bel | exact hHeld56.bel | exact hHeld57.bel | exact hHeld58.bel | exact hHeld59.bel | exact hHeld60.bel | exact hHeld61.bel | exact hHeld62.bel | exact hHeld63.bel | exact hHeld64.bel | exact hHeld65.bel | exact hHeld66.bel | exact hHeld67.bel | exact hHeld68.bel | exact hHeld69.bel | exact hHeld70.bel | exact hHeld71.bel | exact hHeld72.bel | exact hHeld73.bel | exact hHeld74.bel | exact hHeld75.bel | exact hHeld76.bel | exact hHeld77.bel | exact hHeld78.bel | exact hHeld79.bel | exact hHeld80.bel | exact hHeld81.bel | exact hHeld82.bel | exact hHeld83.bel | exact hHeld84.bel | exact hHeld85.bel | exact hHeld86.bel | exact hHeld87.bel | exact hHeld88.bel | exact hHeld89.bel | exact hHeld90.bel | exact hHeld91.bel | exact hHeld92.bel | exact hHeld93.bel | exact hHeld94.bel | exact hHeld95.bel | exact hHeld96.bel | exact hHeld97.bel | exact hHeld98.bel | exact hHeld99.bel | exact hHeld100.bel | exact hHeld101.bel | exact hHeld102.bel | exact hHeld103.bel | exact hHeld104.bel | exact hHeld105.bel | exact hHeld106.bel | exact hHeld107.bel | exact hHeld108.bel | exact hHeld109.bel | exact hHeld110.bel | exact hHeld111.bel | exact hHeld112.bel | exact hHeld113.bel | exact hHeld114.bel | exact hHeld115.bel | exact hHeld116.bel | exact hHeld117.bel | exact hHeld118.bel | exact hHeld119.bel | exact hHeld120.bel | exact hHeld121.bel | exact hHeld122.bel | exact hHeld123.bel | exact hHeld124.bel | exact hHeld125.bel | exact hHeld126.bel | exact hHeld127.bel | exact hHeld128.bel | exact hHeld129.bel)) zt).mono ?_); rintro e wd ⟨bq, Aq, nq, cq, br, Ar, nr, cr, rfl, hb, zq, zr⟩))
        refine hK.out _ _ (hHeld45.next hb) (fun hHeld46 => ?_)
        replace hS6 := hS6.next hb
        (try replace hn2 := hn2.below hb)
        clear hK K
        try clear hb
        try simp only [Act.put, List.setIfInBounds_toArray, List.set_cons_zero, List.set_cons_succ]
        refine wpAnyH_ready (rs := [3, 7]) (by kernel_rfl) (by simp) ?_
        refine AllReadyH.cons (o := ⟨some 18, _, _, _, _, _⟩) rfl (fun K hK => ?_) ?_
        go_simp
        (first | ((with_reducible refine (SZ.out _).mono ?_); rintro e ws ⟨A2, n2, c2, rfl, hb, hn2⟩) | ((with_reducible refine (MT.out _ _ hn2).mono ?_); rintro e wt ⟨bt, At, nt, ct, rfl, hb, zt⟩) | ((with_reducible refine (DR.out _ _ _ (HZ.out.below (by first | exact hHeld0.bel | exact hHeld1.bel | exact hHeld2.bel | exact hHeld3.bel | exact hHeld4.bel | exact hHeld5.bel | exact hHeld6.bel | exact hHeld7.bel | exact hHeld8.bel | exact hHeld9.bel | exact hHeld10.bel | exact hHeld11.bel | exact hHeld12.bel | exact hHeld13.bel | exact hHeld14.bel | exact hHeld15.bel | exact hHeld16.bel | exact hHeld17.bel | exact hHeld18.bel | exact hHeld19.bel | exact hHeld20.bel | exact hHeld21.bel | exact hHeld22.bel | exact hHeld23.bel | exact hHeld24.bel | exact hHeld25.bel | exact hHeld26.bel | exact hHeld27.bel | exact hHeld28.bel | exact hHeld29.bel | exact hHeld30.bel | exact hHeld31.bel | exact hHeld32.bel | exact hHeld33.bel | exact hHeld34.bel | exact hHeld35.bel | exact hHeld36.bel | exact hHeld37.bel | exact hHeld38.bel | exact hHeld39.bel | exact hHeld40.bel | exact hHeld41.bel | exact hHeld42.bel | exact hHeld43.bel | exact hHeld44.bel | exact hHeld45.bel | exact hHeld46.bel | exact hHeld47.bel | exact hHeld48.bel | exact hHeld49.bel | exact hHeld50.bel | exact hHeld51.bel | exact hHeld52.bel | exact hHeld53.bel | exact hHeld54.bel | exact hHeld55.bel | exact hHeld56.bel | exact hHeld57.bel | exact hHeld58.bel | exact hHeld59.bel | exact hHeld60.bel | exact hHeld61.bel | exact hHeld62.bel | exact hHeld63.bel | exact hHeld64.bel | exact hHeld65.bel | exact hHeld66.bel | exact hHeld67.bel | exact hHeld68.bel | exact hHeld69.bel | exact hHeld70.bel | exact hHeld71.bel | exact hHeld72.bel | exact hHeld73.bel | exact hHeld74.bel | exact hHeld75.bel | exact hHeld76.bel | exact hHeld77.bel | exact hHeld78.bel | exact hHeld79.bel | exact hHeld80.bel | exact hHeld81.bel | exact hHeld82.bel | exact hHeld83.bel | exact hHeld84.bel | exact hHeld85.bel | exact hHeld86.bel | exact hHeld87.bel | exact hHeld88.bel | exact hHeld89.bel | exact hHeld90.bel | exact hHeld91.bel | exact hHeld92.bel | exact hHeld93.bel | exact hHeld94.bel | exact hHeld95.bel | exact hHeld96.bel | exact hHeld97.bel | exact hHeld98.bel | exact hHeld99.bel | exact hHeld100.bel | exact hHeld101.bel | exact hHeld102.bel | exact hHeld103.bel | exact hHeld104.bel | exact hHeld105.bel | exact hHeld106.bel | exact hHeld107.bel | exact hHeld108.bel | exact hHeld109.bel | exact hHeld110.bel | exact hHeld111.bel | exact hHeld112.bel | exact hHeld113.bel | exact hHeld114.bel | exact hHeld115.bel | exact hHeld116.bel | exact hHeld117.bel | exact hHeld118.bel | exact hHeld119.bel | exact hHeld120.bel | exact hHeld121.bel | exact hHeld122.bel | exact hHeld123.bel | exact hHeld124.bel | exact hHeld125.bel | exact hHeld126.bel | exact hHeld127.bel | exact hHeld128.bel | exact hHeld129.bel)) zt).mono ?_); rintro e wd ⟨bq, Aq, nq, cq, br, Ar, nr, cr, rfl, hb, zq, zr⟩))
        refine hK.out _ _ (hHeld46.next hb) (fun hHeld47 => ?_)
        replace hS6 := hS6.next hb
        (try replace zt := zt.below hb)
        clear hK K
        try clear hb
        try simp only [Act.put, List.setIfInBounds_toArray, List.set_cons_zero, List.set_cons_succ]
        refine wpAnyH_take (i := 4) (oi := ⟨some 14, _, _, _, _, _⟩) (v := ?_) rfl (by kernel_rfl) (by kernel_rfl) (by kernel_rfl) (fun _ _ _ h => h) (Or.inl ⟨by rfl, ?_⟩) (by assumption) ?_
        rotate_left
        · intro wq hSw; go_simp; (try with_reducible rfl)
        try simp only [Act.put, List.setIfInBounds_toArray, List.set_cons_zero, List.set_cons_succ]
        refine wpAnyH_take (i := 5) (oi := ⟨some 19, _, _, _, _, _⟩) (v := ?_) rfl (by kernel_rfl) (by kernel_rfl) (by kernel_rfl) (fun _ _ _ h => h) (Or.inl ⟨by rfl, ?_⟩) (by assumption) ?_
        rotate_left
        · intro wq hSw; go_simp; (try with_reducible rfl)
        try simp only [Act.put, List.setIfInBounds_toArray, List.set_cons_zero, List.set_cons_succ]
        refine wpAnyH_take (i := 6) (oi := ⟨some 20, _, _, _, _, _⟩) (v := ?_) rfl (by kernel_rfl) (by kernel_rfl) (by kernel_rfl) (fun _ _ _ h => h) (Or.inl ⟨by rfl, ?_⟩) (by assumption) ?_
        rotate_left
        · intro wq hSw; go_simp; (try with_reducible rfl)
        try simp only [Act.put, List.setIfInBounds_toArray, List.set_cons_zero, List.set_cons_succ]
        refine wpAnyH_ready (rs := [7]) (by kernel_rfl) (by simp) ?_
        refine AllReadyH.cons (o := ⟨some 5, _, _, _, _, _⟩) rfl (fun K hK => ?_) AllReadyH.nil
        have hne6_5 := hS6.2.1.1
        have lo5 := hHeld47.1.size
        obtain ⟨⟨a5_z0, a5_c0, a5_f0⟩, ⟨a5_z1, a5_c1, a5_f1⟩, ⟨a5_z2, a5_c2, a5_f2⟩, ⟨a5_z3, a5_c3, a5_f3⟩, _⟩ := hHeld47.2
        (try simp at lo5); (try simp at hne6_5); (try simp at a5_z0); (try simp at a5_z1); (try simp at a5_z2); (try simp at a5_z3)
        go_simp
        refine hK.out _ _ (by first | exact hHeld47.alloc _ | exact (hHeld47.alloc _).drew) (fun hHeld48 => ?_)
        first | replace hS6 := hS6.alloc2e hHeld48 | replace hS6 := hS6.alloc2 hHeld48
        (try replace zq := zq.alloc2 hHeld48)
        (try replace zr := zr.alloc2 hHeld48)
        first | have hS5 := newK2 hHeld48 | have hS5 := newK2d hHeld48
        clear hK K
        try clear hb
        try simp only [Act.put, List.setIfInBounds_toArray, List.set_cons_zero, List.set_cons_succ]
        generalize hGWA34 : World.alloc wd (.cells #[.bool false, .slice none 0 0] 28) = WA34 at *
        clear hGWA34
        refine wpAnyH_ready (rs := [9]) (by kernel_rfl) (by simp) ?_
        refine AllReadyH.cons (o := ⟨none, _, _, _, _, _⟩) rfl (fun K hK => ?_) AllReadyH.nil
        obtain ⟨⟨s5z0, s5c0, s5f0⟩, ⟨s5z1, s5c1, s5f1⟩, _⟩ := hS5.2
        go_simp
        refine hK.out _ _ (by (repeat (first | (with_reducible exact hHeld48) | (refine Keeps.set ?_ (by simp <;> omega) (by simp <;> omega) _)))) (fun hHeld49 => ?_)
        replace hS6 := hS6.mv2 hHeld49 (by first | omega | (simp <;> omega)) (by simp <;> omega)
        (try replace zq := zq.store2 hHeld49 s5c0 s5c1)
        (try replace zr := zr.store2 hHeld49 s5c0 s5c1)
        replace hS5 := hHeld49.add2 s5z0 s5c0 s5f0 s5c1 s5f1
        clear s5z0 s5c0 s5f0 s5z1 s5c1 s5f1
        clear hK K
        try clear hb
        try simp only [Act.put, List.setIfInBounds_toArray, List.set_cons_zero, List.set_cons_succ]
        generalize hGWA35 : World.setCell (World.setCell WA34 ⟨wd.heap.size, 0, none⟩ (.bool bq)) ⟨wd.heap.size, 1, none⟩ (.slice Aq nq cq) = WA35 at *
        clear hGWA35
        refine wpAnyH_ready (rs := [10]) (by kernel_rfl) (by simp) ?_
        refine AllReadyH.cons (o := ⟨none, _, _, _, _, _⟩) rfl (fun K hK => ?_) AllReadyH.nil
        obtain ⟨⟨s6z0, s6c0, s6f0⟩, ⟨s6z1, s6c1, s6f1⟩, _⟩ := hS6.2
        go_simp
        refine hK.out _ _ (by (repeat (first | (with_reducible exact hHeld49) | (refine Keeps.set ?_ (by simp <;> omega) (by simp <;> omega) _)))) (fun hHeld50 => ?_)
        replace hS5 := hS5.mv2 hHeld50 (by first | omega | (simp <;> omega)) (by simp <;> omega)
        (try replace zq := zq.store2 hHeld50 s6c0 s6c1)
        (try replace zr := zr.store2 hHeld50 s6c0 s6c1)
        replace hS6 := hHeld50.add2 s6z0 s6c0 s6f0 s6c1 s6f1
        clear s6z0 s6c0 s6f0 s6z1 s6c1 s6f1
        clear hK K
        try clear hb
        try simp only [Act.put, List.setIfInBounds_toArray, List.set_cons_zero, List.set_cons_succ]
        generalize hGWA36 : World.setCell (World.setCell WA35 ⟨ws.heap.size, 0, none⟩ (.bool br)) ⟨ws.heap.size, 1, none⟩ (.slice Ar nr cr) = WA36 at *
        clear hGWA36
        refine wpAnyH_done (by kernel_rfl) ?_ _
        have hHeld := hHeld50
        rotate_left 1
        refine AllReadyH.cons (o := ⟨some 5, _, _, _, _, _⟩) rfl (fun K hK => ?_) ?_
        have hne6_5 := hS6.2.1.1
        have lo5 := hHeld46.1.size
        obtain ⟨⟨a5_z0, a5_c0, a5_f0⟩, ⟨a5_z1, a5_c1, a5_f1⟩, ⟨a5_z2, a5_c2, a5_f2⟩, ⟨a5_z3, a5_c3, a5_f3⟩, _⟩ := hHeld46.2
        (try simp at lo5); (try simp at hne6_5); (try simp at a5_z0); (try simp at a5_z1); (try simp at a5_z2); (try simp at a5_z3)
        go_simp
        refine hK.out _ _ (by first | exact hHeld46.alloc _ | exact (hHeld46.alloc _).drew) (fun hHeld51 => ?_)
        first | replace hS6 := hS6.alloc2e hHeld51 | replace hS6 := hS6.alloc2 hHeld51
        (try replace zt := zt.alloc2 hHeld51)
        first | have hS5 := newK2 hHeld51 | have hS5 := newK2d hHeld51
        clear hK K
        try clear hb
        try simp only [Act.put, List.setIfInBounds_toArray, List.set_cons_zero, List.set_cons_succ]
        generalize hGWA37 : World.alloc wt (.cells #[.bool false, .slice none 0 0] 28) = WA37 at *
        clear hGWA37
        refine wpAnyH_ready (rs := [3]) (by kernel_rfl) (by simp) ?_
        refine AllReadyH.cons (o := ⟨some 18, _, _, _, _, _⟩) rfl (fun K hK => ?_) AllReadyH.nil
        go_simp
        (first | ((with_reducible refine (SZ.out _).mono ?_); rintro e ws ⟨A2, n2, c2, rfl, hb, hn2⟩) | ((with_reducible refine (MT.out _ _ hn2).mono ?_); rintro e wt ⟨bt, At, nt, ct, rfl, hb, zt⟩) | ((with_reducible refine (DR.out _ _ _ (HZ.out.below (by first | exact hHeld0.bel | exact hHeld1.bel | exact hHeld2.bel | exact hHeld3.bel | exact hHeld4.bel | exact hHeld5.bel | exact hHeld6.bel | exact hHeld7.bel | exact hHeld8.bel | exact hHeld9.bel | exact hHeld10.bel | exact hHeld11.bel | exact hHeld12.bel | exact hHeld13.bel | exact hHeld14.bel | exact hHeld15.bel | exact hHeld16.bel | exact hHeld17.bel | exact hHeld18.bel | exact hHeld19.bel | exact hHeld20.bel | exact hHeld21.bel | exact hHeld22.bel | exact hHeld23.bel | exact hHeld24.bel | exact hHeld25.bel | exact hHeld26.bel | exact hHeld27.bel | exact hHeld28.bel | exact hHeld29.bel | exact hHeld30.bel | exact hHeld31.bel | exact hHeld32.bel | exact hHeld33.bel | exact hHeld34.bel | exact hHeld35.bel | exact hHeld36.bel | exact hHeld37.bel | exact hHeld38.bel | exact hHeld39.bel | exact hHeld40.bel | exact hHeld41.bel | exact hHeld42.bel | exact hHeld43.bel | exact hHeld44.bel | exact hHeld45.bel | exact hHeld46.bel | exact hHeld47.bel | exact hHeld48.bel | exact hHeld49.bel | exact hHeld50.bel | exact hHeld51.bel | exact hHeld52.bel | exact hHeld53.bel | exact hHeld54.bel | exact hHeld55.bel | exact hHeld56.bel | exact hHeld57.bel | exact hHeld58.bel | exact hHeld59.bel | exact hHeld60.bel | exact hHeld61.bel | exact hHeld62.bel | exact hHeld63.bel | exact hHeld64.bel | exact hHeld65.bel | exact hHeld66.bel | exact hHeld67.bel | exact hHeld68.bel | exact hHeld69.bel | exact hHeld70.bel | exact hHeld71.bel | exact hHeld72.bel | exact hHeld73.bel | exact hHeld74.bel | exact hHeld75.bel | exact hHeld76.bel | exact hHeld77.bel | exact hHeld78.bel | exact hHeld79.bel | exact hHeld80.bel | exact hHeld81.bel | exact hHeld82.bel | exact hHeld83.bel | exact hHeld84.bel | exact hHeld85.bel | exact hHeld86.bel | exact hHeld87.bel | exact hHeld88.bel | exact hHeld89.bel | exact hHeld90.bel | exact hHeld91.bel | exact hHeld92.bel | exact hHeld93.bel | exact hHeld94.bel | exact hHeld95.bel | exact hHeld96.bel | exact hHeld97.bel | exact hHeld98.bel | exact hHeld99.bel | exact hHeld100.bel | exact hHeld101.bel | exact hHeld102.bel | exact hHeld103.bel | exact hHeld104.bel | exact hHeld105.bel | exact hHeld106.bel | exact hHeld107.bel | exact hHeld108.bel | exact hHeld109.bel | exact hHeld110.bel | exact hHeld111.bel | exact hHeld112.bel | exact hHeld113.bel | exact hHeld114.bel | exact hHeld115.bel | exact hHeld116.bel | exact hHeld117.bel | exact hHeld118.bel | exact hHeld119.bel | exact hHeld120.bel | exact hHeld121.bel | exact hHeld122.bel | exact hHeld123.bel | exact hHeld124.bel | exact hHeld125.bel | exact hHeld126.bel | exact hHeld127.bel | exact hHeld128.bel | exact hHeld129.bel)) zt).mono ?_); rintro e wd ⟨bq, Aq, nq, cq, br, Ar, nr, cr, rfl, hb, zq, zr⟩))
        refine hK.out _ _ (hHeld51.next hb) (fun hHeld52 => ?_)
        replace hS6 := hS6.next hb
        replace hS5 := hS5.next hb
        (try replace zt := zt.below hb)
        clear hK K
        try clear hb
        try simp only [Act.put, List.setIfInBounds_toArray, List.set_cons_zero, List.set_cons_succ]
        refine wpAnyH_take (i := 4) (oi := ⟨some 14, _, _, _, _, _⟩) (v := ?_) rfl (by kernel_rfl) (by kernel_rfl) (by kernel_rfl) (fun _ _ _ h => h) (Or.inl ⟨by rfl, ?_⟩) (by assumption) ?_
        rotate_left
        · intro wq hSw; go_simp; (try with_reducible rfl)
        try simp only [Act.put, List.setIfInBounds_toArray, List.set_cons_zero, List.set_cons_succ]
        refine wpAnyH_take (i := 5) (oi := ⟨some 19, _, _, _, _, _⟩) (v := ?_) rfl (by kernel_rfl) (by kernel_rfl) (by kernel_rfl) (fun _ _ _ h => h) (Or.inl ⟨by rfl, ?_⟩) (by assumption) ?_
        rotate_left
        · intro wq hSw; go_simp; (try with_reducible rfl)
        try simp only [Act.put, List.setIfInBounds_toArray, List.set_cons_zero, List.set_cons_succ]
        refine wpAnyH_take (i := 6) (oi := ⟨some 20, _, _, _, _, _⟩) (v := ?_) rfl (by kernel_rfl) (by kernel_rfl) (by kernel_rfl) (fun _ _ _ h => h) (Or.inl ⟨by rfl, ?_⟩) (by assumption) ?_
        rotate_left
        · intro wq hSw; go_simp; (try with_reducible rfl)
        try simp only [Act.put, List.setIfInBounds_toArray, List.set_cons_zero, List.set_cons_succ]
        refine wpAnyH_ready (rs := [9]) (by kernel_rfl) (by simp) ?_
        refine AllReadyH.cons (o := ⟨none, _, _, _, _, _⟩) rfl (fun K hK => ?_) AllReadyH.nil
        obtain ⟨⟨s5z0, s5c0, s5f0⟩, ⟨s5z1, s5c1, s5f1⟩, _⟩ := hS5.2
        go_simp
        refine hK.out _ _ (by (repeat (first | (with_reducible exact hHeld52) | (refine Keeps.set ?_ (by simp <;> omega) (by simp <;> omega) _)))) (fun hHeld53 => ?_)
        replace hS6 := hS6.mv2 hHeld53 (by first | omega | (simp <;> omega)) (by simp <;> omega)
        (try replace zq := zq.store2 hHeld53 s5c0 s5c1)
        (try replace zr := zr.store2 hHeld53 s5c0 s5c1)
        replace hS5 := hHeld53.add2 s5z0 s5c0 s5f0 s5c1 s5f1
        clear s5z0 s5c0 s5f0 s5z1 s5c1 s5f1
        clear hK K
        try clear hb
        try simp only [Act.put, List.setIfInBounds_toArray, List.set_cons_zero, List.set_cons_succ]
        generalize hGWA38 : World.setCell (World.setCell wd ⟨wt.heap.size, 0, none⟩ (.bool bq)) ⟨wt.heap.size, 1, none⟩ (.slice Aq nq cq) = WA38 at *
        clear hGWA38
        refine wpAnyH_ready (rs := [10]) (by kernel_rfl) (by simp) ?_
        refine AllReadyH.cons (o := ⟨none, _, _, _, _, _⟩) rfl (fun K hK => ?_) AllReadyH.nil
        obtain ⟨⟨s6z0, s6c0, s6f0⟩, ⟨s6z1, s6c1, s6f1⟩, _⟩ := hS6.2
        go_simp
        refine hK.out _ _ (by (repeat (first | (with_reducible exact hHeld53) | (refine Keeps.set ?_ (by simp <;> omega) (by simp <;> omega) _)))) (fun hHeld54 => ?_)
        replace hS5 := hS5.mv2 hHeld54 (by first | omega | (simp <;> omega)) (by simp <;> omega)
        (try replace zq := zq.store2 hHeld54 s6c0 s6c1)
        (try replace zr := zr.store2 hHeld54 s6c0 s6c1)
        replace hS6 := hHeld54.add2 s6z0 s6c0 s6f0 s6c1 s6f1
        clear s6z0 s6c0 s6f0 s6z1 s6c1 s6f1
        clear hK K
        try clear hb
        try simp only [Act.put, List.setIfInBounds_toArray, List.set_cons_zero, List.set_cons_succ]
        generalize hGWA39 : World.setCell (World.setCell WA38 ⟨ws.heap.size, 0, none⟩ (.bool br)) ⟨ws.heap.size, 1, none⟩ (.slice Ar nr cr) = WA39 at *
        clear hGWA39
        refine wpAnyH_done (by kernel_rfl) ?_ _
        have hHeld := hHeld54
        rotate_left 1
        exact AllReadyH.nil
        refine AllReadyH.cons (o := ⟨some 5, _, _, _, _, _⟩) rfl (fun K hK => ?_) ?_
        have hne6_5 := hS6.2.1.1
        have lo5 := hHeld45.1.size
        obtain ⟨⟨a5_z0, a5_c0, a5_f0⟩, ⟨a5_z1, a5_c1, a5_f1⟩, ⟨a5_z2, a5_c2, a5_f2⟩, ⟨a5_z3, a5_c3, a5_f3⟩, _⟩ := hHeld45.2
        (try simp at lo5); (try simp at hne6_5); (try simp at a5_z0); (try simp at a5_z1); (try simp at a5_z2); (try simp at a5_z3)
        go_simp
        refine hK.out _ _ (by first | exact hHeld45.alloc _ | exact (hHeld45.alloc _).drew) (fun hHeld55 => ?_)
        first | replace hS6 := hS6.alloc2e hHeld55 | replace hS6 := hS6.alloc2 hHeld55
        (try replace hn2 := hn2.alloc2 hHeld55)
        first | have hS5 := newK2 hHeld55 | have hS5 := newK2d hHeld55
        clear hK K
        try clear hb
        try simp only [Act.put, List.setIfInBounds_toArray, List.set_cons_zero, List.set_cons_succ]
        generalize hGWA40 : World.alloc WA33 (.cells #[.bool false, .slice none 0 0] 28) = WA40 at *
        clear hGWA40
        refine wpAnyH_ready (rs := [2]) (by kernel_rfl) (by simp) ?_
        refine AllReadyH.cons (o := ⟨some 17, _, _, _, _, _⟩) rfl (fun K hK => ?_) AllReadyH.nil
        go_simp
        (first | ((with_reducible refine (SZ.out _).mono ?_); rintro e ws ⟨A2, n2, c2, rfl, hb, hn2⟩) | ((with_reducible refine (MT.out _ _ hn2).mono ?_); rintro e wt ⟨bt, At, nt, ct, rfl, hb, zt⟩) | ((with_reducible refine (DR.out _ _ _ (HZ.out.below (by first | exact hHeld0.bel | exact hHeld1.bel | exact hHeld2.bel | exact hHeld3.bel | exact hHeld4.bel | exact hHeld5.bel | exact hHeld6.bel | exact hHeld7.bel | exact hHeld8.bel | exact hHeld9.bel | exact hHeld10.bel | exact hHeld11.bel | exact hHeld12.bel | exact hHeld13.bel | exact hHeld14.bel | exact hHeld15.bel | exact hHeld16.bel | exact hHeld17.bel | exact hHeld18.bel | exact hHeld19.bel | exact hHeld20.bel | exact hHeld21.bel | exact hHeld22.bel | exact hHeld23.bel | exact hHeld24.bel | exact hHeld25.bel | exact hHeld26.bel | exact hHeld27.bel | exact hHeld28.bel | exact hHeld29.bel | exact hHeld30.bel | exact hHeld31.bel | exact hHeld32.bel | exact hHeld33.bel | exact hHeld34.bel | exact hHeld35.bel | exact hHeld36.bel | exact hHeld37.bel | exact hHeld38.bel | exact hHeld39.bel | exact hHeld40.bel | exact hHeld41.bel | exact hHeld42.bel | exact hHeld43.bel | exact hHeld44.bel | exact hHeld45.bel | exact hHeld46.bel | exact hHeld47.bel | exact hHeld48.bel | exact hHeld49.bel | exact hHeld50.bel | exact hHeld51.bel | exact hHeld52.bel | exact hHeld53.bel | exact hHeld54.bel | exact hHeld55.bel | exact hHeld56.bel | exact hHeld57.bel | exact hHeld58.bel | exact hHeld59.bel | exact hHeld60.bel | exact hHeld61.bel | exact hHeld62.bel | exact hHeld63.bel | exact hHeld64.bel | exact hHeld65.bel | exact hHeld66.bel | exact hHeld67.bel | exact hHeld68.bel | exact hHeld69.bel | exact hHeld70.bel | exact hHeld71.bel | exact hHeld72.bel | exact hHeld73.bel | exact hHeld74.bel | exact hHeld75.bel | exact hHeld76.bel | exact hHeld77.bel | exact hHeld78.bel | exact hHeld79.bel | exact hHeld80.bel | exact hHeld81.bel | exact hHeld82.bel | exact hHeld83.bel | exact hHeld84.bel | exact hHeld85.bel | exact hHeld86.bel | exact hHeld87.bel | exact hHeld88.bel | exact hHeld89.bel | exact hHeld90.bel | exact hHeld91.bel | exact hHeld92.bel | exact hHeld93.bel | exact hHeld94.bel | exact hHeld95.bel | exact hHeld96.bel | exact hHeld97.bel | exact hHeld98.bel | exact hHeld99.bel | exact hHeld100.bel | exact hHeld101.bel | exact hHeld102.bel | exact hHeld103.bel | exact hHeld104.bel | exact hHeld105.bel | exact hHeld106.bel | exact hHeld107.bel | exact hHeld108.bel | exact hHeld109.bel | exact hHeld110.bel | exact hHeld111.bel | exact hHeld112.bel | exact hHeld113.bel | exact hHeld114.bel | exact hHeld115.bel | exact hHeld116.bel | exact hHeld117.bel | exact hHeld118.bel | exact hHeld119.bel | exact hHeld120.bel | exact hHeld121.bel | exact hHeld122.bel | exact hHeld123.bel | exact hHeld124.bel | exact hHeld125.bel | exact hHeld126.bel | exact hHeld127.bel | exact hHeld128.bel | exact hHeld129.bel)) zt).mono ?_); rintro e wd ⟨bq, Aq, nq, cq, br, Ar, nr, cr, rfl, hb, zq, zr⟩))
        refine hK.out _ _ (hHeld55.next hb) (fun hHeld56 => ?_)
        replace hS6 := hS6.next hb
        replace hS5 := hS5.next hb
        (try replace hn2 := hn2.below hb)
        clear hK K
        try clear hb
        try simp only [Act.put, List.setIfInBounds_toArray, List.set_cons_zero, List.set_cons_succ]
        refine wpAnyH_ready (rs := [3]) (by kernel_rfl) (by simp) ?_
        refine AllReadyH.cons (o := ⟨some 18, _, _, _, _, _⟩) rfl (fun K hK => ?_) AllReadyH.nil
        go_simp
        (first | ((with_reducible refine (SZ.out _).mono ?_); rintro e ws ⟨A2, n2, c2, rfl, hb, hn2⟩) | ((with_reducible refine (MT.out _ _ hn2).mono ?_); rintro e wt ⟨bt, At, nt, ct, rfl, hb, zt⟩) | ((with_reducible refine (DR.out _ _ _ (HZ.out.below (by first | exact hHeld0.bel | exact hHeld1.bel | exact hHeld2.bel | exact hHeld3.bel | exact hHeld4.bel | exact hHeld5.bel | exact hHeld6.bel | exact hHeld7.bel | exact hHeld8.bel | exact hHeld9.bel | exact hHeld10.bel | exact hHeld11.bel | exact hHeld12.bel | exact hHeld13.bel | exact hHeld14.bel | exact hHeld15.bel | exact hHeld16.bel | exact hHeld17.bel | exact hHeld18.bel | exact hHeld19.bel | exact hHeld20.bel | exact hHeld21.bel | exact hHeld22.bel | exact hHeld23.bel | exact hHeld24.bel | exact hHeld25.bel | exact hHeld26.bel | exact hHeld27.bel | exact hHeld28.bel | exact hHeld29.bel | exact hHeld30.bel | exact hHeld31.bel | exact hHeld32.bel | exact hHeld33.bel | exact hHeld34.bel | exact hHeld35.bel | exact hHeld36.bel | exact hHeld37.bel | exact hHeld38.bel | exact hHeld39.bel | exact hHeld40.bel | exact hHeld41.bel | exact hHeld42.bel | exact hHeld43.bel | exact hHeld44.bel | exact hHeld45.bel | exact hHeld46.bel | exact hHeld47.bel | exact hHeld48.bel | exact hHeld49.bel | exact hHeld50.bel | exact hHeld51.bel | exact hHeld52.bel | exact hHeld53.bel | exact hHeld54.bel | exact hHeld55.bel | exact hHeld56.bel | exact hHeld57.bel | exact hHeld58.bel | exact hHeld59.bel | exact hHeld60.bel | exact hHeld61.bel | exact hHeld62.bel | exact hHeld63.bel | exact hHeld64.bel | exact hHeld65.bel | exact hHeld66.bel | exact hHeld67.bel | exact hHeld68.bel | exact hHeld69.bel | exact hHeld70.bel | exact hHeld71.bel | exact hHeld72.bel | exact hHeld73.bel | exact hHeld74.bel | exact hHeld75.bel | exact hHeld76.bel | exact hHeld77.bel | exact hHeld78.bel | exact hHeld79.bel | exact hHeld80.bel | exact hHeld81.bel | exact hHeld82.bel | exact hHeld83.bel | exact hHeld84.bel | exact hHeld85.bel | exact hHeld86.bel | exact hHeld87.bel | exact hHeld88.bel | exact hHeld89.bel | exact hHeld90.bel | exact hHeld91.bel | exact hHeld92.bel | exact hHeld93.bel | exact hHeld94.bel | exact hHeld95.bel | exact hHeld96.bel | exact hHeld97.bel | exact hHeld98.bel | exact hHeld99.bel | exact hHeld100.bel | exact hHeld101.bel | exact hHeld102.bel | exact hHeld103.bel | exact hHeld104.bel | exact hHeld105.bel | exact hHeld106.bel | exact hHeld107.bel | exact hHeld108.bel | exact hHeld109.bel | exact hHeld110.bel | exact hHeld111.bel | exact hHeld112.bel | exact hHeld113.bel | exact hHeld114.bel | exact hHeld115.bel | exact hHeld116.bel | exact hHeld117.bel | exact hHeld118.bel | exact hHeld119.bel | exact hHeld120.bel | exact hHeld121.bel | exact hHeld122.bel | exact hHeld123.bel | exact hHeld124.bel | exact hHeld125.bel | exact hHeld126.bel | exact hHeld127.bel | exact hHeld128.bel | exact hHeld129.bel)) zt).mono ?_); rintro e wd ⟨bq, Aq, nq, cq, br, Ar, nr, cr, rfl, hb, zq, zr⟩))
        refine hK.out _ _ (hHeld56.next hb) (fun hHeld57 => ?_)
        replace hS6 := hS6.next hb
        replace hS5 := hS5.next hb
        (try replace zt := zt.below hb)
        clear hK K
        try clear hb
        try simp only [Act.put, List.setIfInBounds_toArray, List.set_cons_zero, List.set_cons_succ]
        refine wpAnyH_take (i := 4) (oi := ⟨some 14, _, _, _, _, _⟩) (v := ?_) rfl (by kernel_rfl) (by kernel_rfl) (by kernel_rfl) (fun _ _ _ h => h) (Or.inl ⟨by rfl, ?_⟩) (by assumption) ?_
        rotate_left
        · intro wq hSw; go_simp; (try with_reducible rfl)
        try simp only [Act.put, List.setIfInBounds_toArray, List.set_cons_zero, List.set_cons_succ]
        refine wpAnyH_take (i := 5) (oi := ⟨some 19, _, _, _, _, _⟩) (v := ?_) rfl (by kernel_rfl) (by kernel_rfl) (by kernel_rfl) (fun _ _ _ h => h) (Or.inl ⟨by rfl, ?_⟩) (by assumption) ?_
        rotate_left
        · intro wq hSw; go_simp; (try with_reducible rfl)
        try simp only [Act.put, List.setIfInBounds_toArray, List.set_cons_zero, List.set_cons_succ]
        refine wpAnyH_take (i := 6) (oi := ⟨some 20, _, _, _, _, _⟩) (v := ?_) rfl (by kernel_rfl) (by kernel_rfl) (by kernel_rfl) (fun _ _ _ h => h) (Or.inl ⟨by rfl, ?_⟩) (by assumption) ?_
        rotate_left
        · intro wq hSw; go_simp; (try with_reducible rfl)
        try simp only [Act.put, List.setIfInBounds_toArray, List.set_cons_zero, List.set_cons_succ]
        refine wpAnyH_ready (rs := [9]) (by kernel_rfl) (by simp) ?_
        refine AllReadyH.cons (o := ⟨none, _, _, _, _, _⟩) rfl (fun K hK => ?_) AllReadyH.nil
        obtain ⟨⟨s5z0, s5c0, s5f0⟩, ⟨s5z1, s5c1, s5f1⟩, _⟩ := hS5.2
        go_simp
        refine hK.out _ _ (by (repeat (first | (with_reducible exact hHeld57) | (refine Keeps.set ?_ (by simp <;> omega) (by simp <;> omega) _)))) (fun hHeld58 => ?_)
        replace hS6 := hS6.mv2 hHeld58 (by first | omega | (simp <;> omega)) (by simp <;> omega)
        (try replace zq := zq.store2 hHeld58 s5c0 s5c1)
        (try replace zr := zr.store2 hHeld58 s5c0 s5c1)
        replace hS5 := hHeld58.add2 s5z0 s5c0 s5f0 s5c1 s5f1
        clear s5z0 s5c0 s5f0 s5z1 s5c1 s5f1
        clear hK K
        try clear hb
        try simp only [Act.put, List.setIfInBounds_toArray, List.set_cons_zero, List.set_cons_succ]
        generalize hGWA41 : World.setCell (World.setCell wd ⟨WA33.heap.size, 0, none⟩ (.bool bq)) ⟨WA33.heap.size, 1, none⟩ (.slice Aq nq cq) = WA41 at *
        clear hGWA41
        refine wpAnyH_ready (rs := [10]) (by kernel_rfl) (by simp) ?_
        refine AllReadyH.cons (o := ⟨none, _, _, _, _, _⟩) rfl (fun K hK => ?_) AllReadyH.nil
        obtain ⟨⟨s6z0, s6c0, s6f0⟩, ⟨s6z1, s6c1, s6f1⟩, _⟩ := hS6.2
        go_simp
        refine hK.out _ _ (by (repeat (first | (with_reducible exact hHeld58) | (refine Keeps.set ?_ (by simp <;> omega) (by simp <;> omega) _)))) (fun hHeld59 => ?_)
        replace hS5 := hS5.mv2 hHeld59 (by first | omega | (simp <;> omega)) (by simp <;> omega)
        (try replace zq := zq.store2 hHeld59 s6c0 s6c1)
        (try replace zr := zr.store2 hHeld59 s6c0 s6c1)
        replace hS6 := hHeld59.add2 s6z0 s6c0 s6f0 s6c1 s6f1
        clear s6z0 s6c0 s6f0 s6z1 s6c1 s6f1
        clear hK K
        try clear hb
        try simp only [Act.put, List.setIfInBounds_toArray, List.set_cons_zero, List.set_cons_succ]
        generalize hGWA42 : World.setCell (World.setCell WA41 ⟨ws.heap.size, 0, none⟩ (.bool br)) ⟨ws.heap.size, 1, none⟩ (.slice Ar nr cr) = WA42 at *
        clear hGWA42
        refine wpAnyH_done (by kernel_rfl) ?_ _
        have hHeld := hHeld59
        rotate_left 1
        exact AllReadyH.nil
        exact AllReadyH.nil
        refine AllReadyH.cons (o := ⟨some 5, _, _, _, _, _⟩) rfl (fun K hK => ?_) ?_
        have lo5 := hHeld0.1.size
        obtain ⟨⟨a5_z0, a5_c0, a5_f0⟩, ⟨a5_z1, a5_c1, a5_f1⟩, ⟨a5_z2, a5_c2, a5_f2⟩, ⟨a5_z3, a5_c3, a5_f3⟩, _⟩ := hHeld0.2
        (try simp at lo5); (try simp at a5_z0); (try simp at a5_z1); (try simp at a5_z2); (try simp at a5_z3)
        go_simp
        refine hK.out _ _ (by first | exact hHeld0.alloc _ | exact (hHeld0.alloc _).drew) (fun hHeld60 => ?_)
        first | have hS5 := newK2 hHeld60 | have hS5 := newK2d hHeld60
        clear hK K
        try clear hb
        try simp only [Act.put, List.setIfInBounds_toArray, List.set_cons_zero, List.set_cons_succ]
        generalize hGWA43 : World.alloc wr (.cells #[.bool false, .slice none 0 0] 28) = WA43 at *
        clear hGWA43
        refine wpAnyH_ready (rs := [1, 8]) (by kernel_rfl) (by simp) ?_
        refine AllReadyH.cons (o := ⟨some 16, _, _, _, _, _⟩) rfl (fun K hK => ?_) ?_
        go_simp
        (first | ((with_reducible refine (SZ.out _).mono ?_); rintro e ws ⟨A2, n2, c2, rfl, hb, hn2⟩) | ((with_reducible refine (MT.out _ _ hn2).mono ?_); rintro e wt ⟨bt, At, nt, ct, rfl, hb, zt⟩) | ((with_reducible refine (DR.out _ _ _ (HZ.out.below (by first | exact hHeld0.bel | exact hHeld1.bel | exact hHeld2.bel | exact hHeld3.bel | exact hHeld4.bel | exact hHeld5.bel | exact hHeld6.bel | exact hHeld7.bel | exact hHeld8.bel | exact hHeld9.bel | exact hHeld10.bel | exact hHeld11.bel | exact hHeld12.bel | exact hHeld13.bel | exact hHeld14.bel | exact hHeld15.bel | exact hHeld16.bel | exact hHeld17.bel | exact hHeld18.bel | exact hHeld19.bel | exact hHeld20.bel | exact hHeld21.bel | exact hHeld22.bel | exact hHeld23.bel | exact hHeld24.bel | exact hHeld25.bel | exact hHeld26.bel | exact hHeld27.bel | exact hHeld28.bel | exact hHeld29.bel | exact hHeld30.bel | exact hHeld31.bel | exact hHeld32.bel | exact hHeld33.bel | exact hHeld34.bel | exact hHeld35.bel | exact hHeld36.bel | exact hHeld37.bel | exact hHeld38.bel | exact hHeld39.bel | exact hHeld40.bel | exact hHeld41.bel | exact hHeld42.bel | exact hHeld43.bel | exact hHeld44.bel | exact hHeld45.bel | exact hHeld46.bel | exact hHeld47.bel | exact hHeld48.bel | exact hHeld49.bel | exact hHeld50.bel | exact hHeld51.bel | exact hHeld52.bel | exact hHeld53.bel | exact hHeld54.bel | exact hHeld55.bel | exact hHeld56.bel | exact hHeld57.bel | exact hHeld58.bel | exact hHeld59.bel | exact hHeld60.bel | exact hHeld61.bel | exact hHeld62.bel | exact hHeld63.bel | exact hHeld64.bel | exact hHeld65.bel | exact hHeld66.bel | exact hHeld67.bel | exact hHeld68.bel | exact hHeld69.bel | exact hHeld70.bel | exact hHeld71.bel | exact hHeld72.bel | exact hHeld73.bel | exact hHeld74.bel | exact hHeld75.bel | exact hHeld76.bel | exact hHeld77.bel | exact hHeld78.bel | exact hHeld79.bel | exact hHeld80.bel | exact hHeld81.bel | exact hHeld82.bel | exact hHeld83.bel | exact hHeld84.bel | exact hHeld85.bel | exact hHeld86.bel | exact hHeld87.bel | exact hHeld88.bel | exact hHeld89.bel | exact hHeld90.bel | exact hHeld91.bel | exact hHeld92.bel | exact hHeld93.bel | exact hHeld94.bel | exact hHeld95.bel | exact hHeld96.bel | exact hHeld97.bel | exact hHeld98.bel | exact hHeld99.bel | exact hHeld100.bel | exact hHeld101.bel | exact hHeld102.bel | exact hHeld103.bel | exact hHeld104.bel | exact hHeld105.bel | exact hHeld106.bel | exact hHeld107.bel | exact hHeld108.bel | exact hHeld109.bel | exact hHeld110.bel | exact hHeld111.bel | exact hHeld112.bel | exact hHeld113.bel | exact hHeld114.bel | exact hHeld115.bel | exact hHeld116.bel | exact hHeld117.bel | exact hHeld118.bel | exact hHeld119.bel | exact hHeld120.bel | exact hHeld121.bel | exact hHeld122.bel | exact hHeld123.bel | exact hHeld124.bel | exact hHeld125.bel | exact hHeld126.bel | exact hHeld127.bel | exact hHeld128.bel | exact hHeld129.bel)) zt).mono ?_); rintro e wd ⟨bq, Aq, nq, cq, br, Ar, nr, cr, rfl, hb, zq, zr⟩))
        refine hK.out _ _ (hHeld60.next hb) (fun hHeld61 => ?_)
        replace hS5 := hS5.next hb
        clear hK K
        try clear hb
        try simp only [Act.put, List.setIfInBounds_toArray, List.set_cons_zero, List.set_cons_succ]
        refine wpAnyH_ready (rs := [2, 8]) (by kernel_rfl) (by simp) ?_
        refine AllReadyH.cons (o := ⟨some 17, _, _, _, _, _⟩) rfl (fun K hK => ?_) ?_
        go_simp
        (first | ((with_reducible refine (SZ.out _).mono ?_); rintro e ws ⟨A2, n2, c2, rfl, hb, hn2⟩) | ((with_reducible refine (MT.out _ _ hn2).mono ?_); rintro e wt ⟨bt, At, nt, ct, rfl, hb, zt⟩) | ((with_reducible refine (DR.out _ _ _ (HZ.out.below (by first | exact hHeld0.bel | exact hHeld1.bel | exact hHeld2.bel | exact hHeld3.bel | exact hHeld4.bel | exact hHeld5.bel | exact hHeld6.bel | exact hHeld7.bel | exact hHeld8.bel | exact hHeld9.bel | exact hHeld10.bel | exact hHeld11.bel | exact hHeld12.bel | exact hHeld13.bel | exact hHeld14.bel | exact hHeld15.bel | exact hHeld16.bel | exact hHeld17.bel | exact hHeld18.bel | exact hHeld19.bel | exact hHeld20.bel | exact hHeld21.bel | exact hHeld22.bel | exact hHeld23.bel | exact hHeld24.bel | exact hHeld25.bel | exact hHeld26.bel | exact hHeld27.bel | exact hHeld28.bel | exact hHeld29.bel | exact hHeld30.bel | exact hHeld31.bel | exact hHeld32.bel | exact hHeld33.bel | exact hHeld34.bel | exact hHeld35.bel | exact hHeld36.bel | exact hHeld37.bel | exact hHeld38.bel | exact hHeld39.bel | exact hHeld40.bel | exact hHeld41.bel | exact hHeld42.bel | exact hHeld43.bel | exact hHeld44.bel | exact hHeld45.bel | exact hHeld46.bel | exact hHeld47.bel | exact hHeld48.bel | exact hHeld49.bel | exact hHeld50.bel | exact hHeld51.bel | exact hHeld52.bel | exact hHeld53.bel | exact hHeld54.bel | exact hHeld55.bel | exact hHeld56.bel | exact hHeld57.bel | exact hHeld58.bel | exact hHeld59.bel | exact hHeld60.bel | exact hHeld61.bel | exact hHeld62.bel | exact hHeld63.bel | exact hHeld64.bel | exact hHeld65.bel | exact hHeld66.bel | exact hHeld67.bel | exact hHeld68.bel | exact hHeld69.bel | exact hHeld70.bel | exact hHeld71.bel | exact hHeld72.bel | exact hHeld73.bel | exact hHeld74.bel | exact hHeld75.bel | exact hHeld76.bel | exact hHeld77.bel | exact hHeld78.bel | exact hHeld79.bel | exact hHeld80.bel | exact hHeld81.bel | exact hHeld82.bel | exact hHeld83.bel | exact hHeld84.bel | exact hHeld85.bel | exact hHeld86.bel | exact hHeld87.bel | exact hHeld88.bel | exact hHeld89.bel | exact hHeld90.bel | exact hHeld91.bel | exact hHeld92.bel | exact hHeld93.bel | exact hHeld94.bel | exact hHeld95.bel | exact hHeld96.bel | exact hHeld97.bel | exact hHeld98.bel | exact hHeld99.bel | exact hHeld100.bel | exact hHeld101.bel | exact hHeld102.bel | exact hHeld103.bel | exact hHeld104.bel | exact hHeld105.bel | exact hHeld106.bel | exact hHeld107.bel | exact hHeld108.bel | exact hHeld109.bel | exact hHeld110.bel | exact hHeld111.bel | exact hHeld112.bel | exact hHeld113.bel | exact hHeld114.bel | exact hHeld115.bel | exact hHeld116.bel | exact hHeld117.bel | exact hHeld118.bel | exact hHeld119.bel | exact hHeld120.bel | exact hHeld121.bel | exact hHeld122.bel | exact hHeld123.bel | exact hHeld124.bel | exact hHeld125.bel | exact hHeld126.bel | exact hHeld127.bel | exact hHeld128.bel | exact hHeld129.bel)) zt).mono ?_); rintro e wd ⟨bq, Aq, nq, cq, br, Ar, nr, cr, rfl, hb, zq, zr⟩))
        refine hK.out _ _ (hHeld61.next hb) (fun hHeld62 => ?_)
        replace hS5 := hS5.next hb
        (try replace hn2 := hn2.below hb)
        clear hK K
        try clear hb
        try simp only [Act.put, List.setIfInBounds_toArray, List.set_cons_zero, List.set_cons_succ]
        refine wpAnyH_ready (rs := [3, 8]) (by kernel_rfl) (by simp) ?_
        refine AllReadyH.cons (o := ⟨some 18, _, _, _, _, _⟩) rfl (fun K hK => ?_) ?_
        go_simp
        (first | ((with_reducible refine (SZ.out _).mono ?_); rintro e ws ⟨A2, n2, c2, rfl, hb, hn2⟩) | ((with_reducible refine (MT.out _ _ hn2).mono ?_); rintro e wt ⟨bt, At, nt, ct, rfl, hb, zt⟩) | ((with_reducible refine (DR.out _ _ _ (HZ.out.below (by first | exact hHeld0.bel | exact hHeld1.bel | exact hHeld2.bel | exact hHeld3.bel | exact hHeld4.bel | exact hHeld5.bel | exact hHeld6.bel | exact hHeld7.bel | exact hHeld8.bel | exact hHeld9.bel | exact hHeld10.bel | exact hHeld11.bel | exact hHeld12.bel | exact hHeld13.bel | exact hHeld14.bel | exact hHeld15.bel | exact hHeld16.bel | exact hHeld17.bel | exact hHeld18.bel | exact hHeld19.bel | exact hHeld20.bel | exact hHeld21.bel | exact hHeld22.bel | exact hHeld23.bel | exact hHeld24.bel | exact hHeld25.bel | exact hHeld26.bel | exact hHeld27.bel | exact hHeld28.bel | exact hHeld29.bel | exact hHeld30.bel | exact hHeld31.bel | exact hHeld32.bel | exact hHeld33.bel | exact hHeld34.bel | exact hHeld35.bel | exact hHeld36.bel | exact hHeld37.bel | exact hHeld38.bel | exact hHeld39.bel | exact hHeld40.bel | exact hHeld41.bel | exact hHeld42.bel | exact hHeld43.bel | exact hHeld44.bel | exact hHeld45.bel | exact hHeld46.bel | exact hHeld47.bel | exact hHeld48.bel | exact hHeld49.bel | exact hHeld50.bel | exact hHeld51.bel | exact hHeld52.bel | exact hHeld53.bel | exact hHeld54.bel | exact hHeld55.bel | exact hHeld56.bel | exact hHeld57.bel | exact hHeld58.bel | exact hHeld59.bel | exact hHeld60.bel | exact hHeld61.bel | exact hHeld62.bel | exact hHeld63.bel | exact hHeld64.bel | exact hHeld65.bel | exact hHeld66.bel | exact hHeld67.bel | exact hHeld68.bel | exact hHeld69.bel | exact hHeld70.bel | exact hHeld71.bel | exact hHeld72.bel | exact hHeld73.bel | exact hHeld74.bel | exact hHeld75.bel | exact hHeld76.bel | exact hHeld77.bel | exact hHeld78.bel | exact hHeld79.bel | exact hHeld80.bel | exact hHeld81.bel | exact hHeld82.bel | exact hHeld83.bel | exact hHeld84.bel | exact hHeld85.bel | exact hHeld86.bel | exact hHeld87.bel | exact hHeld88.bel | exact hHeld89.bel | exact hHeld90.bel | exact hHeld91.bel | exact hHeld92.bel | exact hHeld93.bel | exact hHeld94.bel | exact hHeld95.bel | exact hHeld96.bel | exact hHeld97.bel | exact hHeld98.bel | exact hHeld99.bel | exact hHeld100.bel | exact hHeld101.bel | exact hHeld102.bel | exact hHeld103.bel | exact hHeld104.bel | exact hHeld105.bel | exact hHeld106.bel | exact hHeld107.bel | exact hHeld108.bel | exact hHeld109.bel | exact hHeld110.bel | exact hHeld111.bel | exact hHeld112.bel | exact hHeld113.bel | exact hHeld114.bel | exact hHeld115.bel | exact hHeld116.bel | exact hHeld117.bel | exact hHeld118.bel | exact hHeld119.bel | exact hHeld120.bel | exact hHeld121.bel | exact hHeld122.bel | exact hHeld123.bel | exact hHeld124.bel | exact hHeld125.bel | exact hHeld126.bel | exact hHeld127.bel | exact hHeld128.bel | exact hHeld129.bel)) zt).mono ?_); rintro e wd ⟨bq, Aq, nq, cq, br, Ar, nr, cr, rfl, hb, zq, zr⟩))
        refine hK.out _ _ (hHeld62.next hb) (fun hHeld63 => ?_)
        replace hS5 := hS5.next hb
        (try replace zt := zt.below hb)
        clear hK K
        try clear hb
        try simp only [Act.put, List.setIfInBounds_toArray, List.set_cons_zero, List.set_cons_succ]
        refine wpAnyH_take (i := 4) (oi := ⟨some 14, _, _, _, _, _⟩) (v := ?_) rfl (by kernel_rfl) (by kernel_rfl) (by kernel_rfl) (fun _ _ _ h => h) (Or.inl ⟨by rfl, ?_⟩) (by assumption) ?_
        rotate_left
        · intro wq hSw; go_simp; (try with_reducible rfl)
        try simp only [Act.put, List.setIfInBounds_toArray, List.set_cons_zero, List.set_cons_succ]
        refine wpAnyH_take (i := 5) (oi := ⟨some 19, _, _, _, _, _⟩) (v := ?_) rfl (by kernel_rfl) (by kernel_rfl) (by kernel_rfl) (fun _ _ _ h => h) (Or.inl ⟨by rfl, ?_⟩) (by assumption) ?_
        rotate_left
        · intro wq hSw; go_simp; (try with_reducible rfl)
        try simp only [Act.put, List.setIfInBounds_toArray, List.set_cons_zero, List.set_cons_succ]
        refine wpAnyH_take (i := 6) (oi := ⟨some 20, _, _, _, _, _⟩) (v := ?_) rfl (by kernel_rfl) (by kernel_rfl) (by kernel_rfl) (fun _ _ _ h => h) (Or.inl ⟨by rfl, ?_⟩) (by assumption) ?_
        rotate_left
        · intro wq hSw; go_simp; (try with_reducible rfl)
        try simp only [Act.put, List.setIfInBounds_toArray, List.set_cons_zero, List.set_cons_succ]
        refine wpAnyH_ready (rs := [8]) (by kernel_rfl) (by simp) ?_
        refine AllReadyH.cons (o := ⟨some 6, _, _, _, _, _⟩) rfl (fun K hK => ?_) AllReadyH.nil
        have hne5_6 := hS5.2.1.1
        have lo6 := hHeld63.1.size
        obtain ⟨⟨a6_z0, a6_c0, a6_f0⟩, ⟨a6_z1, a6_c1, a6_f1⟩, ⟨a6_z2, a6_c2, a6_f2⟩, ⟨a6_z3, a6_c3, a6_f3⟩, _⟩ := hHeld63.2
        (try simp at lo6); (try simp at hne5_6); (try simp at a6_z0); (try simp at a6_z1); (try simp at a6_z2); (try simp at a6_z3)
        go_simp
        refine hK.out _ _ (by first | exact hHeld63.alloc _ | exact (hHeld63.alloc _).drew) (fun hHeld64 => ?_)
        first | replace hS5 := hS5.alloc2e hHeld64 | replace hS5 := hS5.alloc2 hHeld64
        (try replace zq := zq.alloc2 hHeld64)
        (try replace zr := zr.alloc2 hHeld64)
        first | have hS6 := newK2 hHeld64 | have hS6 := newK2d hHeld64
        clear hK K
        try clear hb
        try simp only [Act.put, List.setIfInBounds_toArray, List.set_cons_zero, List.set_cons_succ]
        generalize hGWA44 : World.alloc wd (.cells #[.bool false, .slice none 0 0] 28) = WA44 at *
        clear hGWA44
        refine wpAnyH_ready (rs := [9]) (by kernel_rfl) (by simp) ?_
        refine AllReadyH.cons (o := ⟨none, _, _, _, _, _⟩) rfl (fun K hK => ?_) AllReadyH.nil
        obtain ⟨⟨s5z0, s5c0, s5f0⟩, ⟨s5z1, s5c1, s5f1⟩, _⟩ := hS5.2
        go_simp
        refine hK.out _ _ (by (repeat (first | (with_reducible exact hHeld64) | (refine Keeps.set ?_ (by simp <;> omega) (by simp <;> omega) _)))) (fun hHeld65 => ?_)
        replace hS6 := hS6.mv2 hHeld65 (by first | omega | (simp <;> omega)) (by simp <;> omega)
        (try replace zq := zq.store2 hHeld65 s5c0 s5c1)
        (try replace zr := zr.store2 hHeld65 s5c0 s5c1)
        replace hS5 := hHeld65.add2 s5z0 s5c0 s5f0 s5c1 s5f1
        clear s5z0 s5c0 s5f0 s5z1 s5c1 s5f1
        clear hK K
        try clear hb
        try simp only [Act.put, List.setIfInBounds_toArray, List.set_cons_zero, List.set_cons_succ]
        generalize hGWA45 : World.setCell (World.setCell WA44 ⟨wr.heap.size, 0, none⟩ (.bool bq)) ⟨wr.heap.size, 1, none⟩ (.slice Aq nq cq) = WA45 at *
        clear hGWA45
        refine wpAnyH_ready (rs := [10]) (by kernel_rfl) (by simp) ?_
        refine AllReadyH.cons (o := ⟨none, _, _, _, _, _⟩) rfl (fun K hK => ?_) AllReadyH.nil
        obtain ⟨⟨s6z0, s6c0, s6f0⟩, ⟨s6z1, s6c1, s6f1⟩, _⟩ := hS6.2
        go_simp
        refine hK.out _ _ (by (repeat (first | (with_reducible exact hHeld65) | (refine Keeps.set ?_ (by simp <;> omega) (by simp <;> omega) _)))) (fun hHeld66 => ?_)
        replace hS5 := hS5.mv2 hHeld66 (by first | omega | (simp <;> omega)) (by simp <;> omega)
        (try replace zq := zq.store2 hHeld66 s6c0 s6c1)
        (try replace zr := zr.store2 hHeld66 s6c0 s6c1)
        replace hS6 := hHeld66.add2 s6z0 s6c0 s6f0 s6c1 s6f1
        clear s6z0 s6c0 s6f0 s6z1 s6c1 s6f1
        clear hK K
        try clear hb
        try simp only [Act.put, List.setIfInBounds_toArray, List.set_cons_zero, List.set_cons_succ]
        generalize hGWA46 : World.setCell (World.setCell WA45 ⟨wd.heap.size, 0, none⟩ (.bool br)) ⟨wd.heap.size, 1, none⟩ (.slice Ar nr cr) = WA46 at *
        clear hGWA46
        refine wpAnyH_done (by kernel_rfl) ?_ _
        have hHeld := hHeld66
        rotate_left 1
        refine AllReadyH.cons (o := ⟨some 6, _, _, _, _, _⟩) rfl (fun K hK => ?_) ?_
        have hne5_6 := hS5.2.1.1
        have lo6 := hHeld62.1.size
        obtain ⟨⟨a6_z0, a6_c0, a6_f0⟩, ⟨a6_z1, a6_c1, a6_f1⟩, ⟨a6_z2, a6_c2, a6_f2⟩, ⟨a6_z3, a6_c3, a6_f3⟩, _⟩ := hHeld62.2
        (try simp at lo6); (try simp at hne5_6); (try simp at a6_z0); (try simp at a6_z1); (try simp at a6_z2); (try simp at a6_z3)
        go_simp
        refine hK.out _ _ (by first | exact hHeld62.alloc _ | exact (hHeld62.alloc _).drew) (fun hHeld67 => ?_)
        first | replace hS5 := hS5.alloc2e hHeld67 | replace hS5 := hS5.alloc2 hHeld67
        (try replace zt := zt.alloc2 hHeld67)
        first | have hS6 := newK2 hHeld67 | have hS6 := newK2d hHeld67
        clear hK K
        try clear hb
        try simp only [Act.put, List.setIfInBounds_toArray, List.set_cons_zero, List.set_cons_succ]
        generalize hGWA47 : World.alloc wt (.cells #[.bool false, .slice none 0 0] 28) = WA47 at *
        clear hGWA47
        refine wpAnyH_ready (rs := [3]) (by kernel_rfl) (by simp) ?_
        refine AllReadyH.cons (o := ⟨some 18, _, _, _, _, _⟩) rfl (fun K hK => ?_) AllReadyH.nil
        go_simp
        (first | ((with_reducible refine (SZ.out _).mono ?_); rintro e ws ⟨A2, n2, c2, rfl, hb, hn2⟩) | ((with_reducible refine (MT.out _ _ hn2).mono ?_); rintro e wt ⟨bt, At, nt, ct, rfl, hb, zt⟩) | ((with_reducible refine (DR.out _ _ _ (HZ.out.below (by first | exact hHeld0.bel | exact hHeld1.bel | exact hHeld2.bel | exact hHeld3.bel | exact hHeld4.bel | exact hHeld5.bel | exact hHeld6.bel | exact hHeld7.bel | exact hHeld8.bel | exact hHeld9.bel | exact hHeld10.bel | exact hHeld11.bel | exact hHeld12.bel | exact hHeld13.bel | exact hHeld14.bel | exact hHeld15.bel | exact hHeld16.bel | exact hHeld17.bel | exact hHeld18.bel | exact hHeld19.bel | exact hHeld20.bel | exact hHeld21.bel | exact hHeld22.bel | exact hHeld23.bel | exact hHeld24.bel | exact hHeld25.bel | exact hHeld26.bel | exact hHeld27.bel | exact hHeld28.bel | exact hHeld29.bel | exact hHeld30.bel | exact hHeld31.bel | exact hHeld32.bel | exact hHeld33.bel | exact hHeld34.bel | exact hHeld35.bel | exact hHeld36.bel | exact hHeld37.bel | exact hHeld38.bel | exact hHeld39.bel | exact hHeld40.bel | exact hHeld41.bel | exact hHeld42.bel | exact hHeld43.bel | exact hHeld44.bel | exact hHeld45.bel | exact hHeld46.bel | exact hHeld47.bel | exact hHeld48.bel | exact hHeld49.bel | exact hHeld50.bel | exact hHeld51.bel | exact hHeld52.bel | exact hHeld53.bel | exact hHeld54.bel | exact hHeld55.bel | exact hHeld56.bel | exact hHeld57.bel | exact hHeld58.bel | exact hHeld59.bel | exact hHeld60.bel | exact hHeld61.bel | exact hHeld62.bel | exact hHeld63.bel | exact hHeld64.bel | exact hHeld65.bel | exact hHeld66.bel | exact hHeld67.bel | exact hHeld68.bel | exact hHeld69.bel | exact hHeld70.bel | exact hHeld71.bel | exact hHeld72.bel | exact hHeld73.bel | exact hHeld74.bel | exact hHeld75.bel | exact hHeld76.bel | exact hHeld77.bel | exact hHeld78.bel | exact hHeld79.bel | exact hHeld80.bel | exact hHeld81.bel | exact hHeld82.bel | exact hHeld83.bel | exact hHeld84.bel | exact hHeld85.bel | exact hHeld86.bel | exact hHeld87.bel | exact hHeld88.bel | exact hHeld89.bel | exact hHeld90.bel | exact hHeld91.bel | exact hHeld92.bel | exact hHeld93.bel | exact hHeld94.bel | exact hHeld95.bel | exact hHeld96.bel | exact hHeld97.bel | exact hHeld98.bel | exact hHeld99.bel | exact hHeld100.bel | exact hHeld101.bel | exact hHeld102.bel | exact hHeld103.bel | exact hHeld104.bel | exact hHeld105.bel | exact hHeld106.bel | exact hHeld107.bel | exact hHeld108.bel | exact hHeld109.bel | exact hHeld110.bel | exact hHeld111.bel | exact hHeld112.bel | exact hHeld113.bel | exact hHeld114.bel | exact hHeld115.bel | exact hHeld116.bel | exact hHeld117.bel | exact hHeld118.bel | exact hHeld119.bel | exact hHeld120.bel | exact hHeld121.bel | exact hHeld122.bel | exact hHeld123.bel | exact hHeld124.bel | exact hHeld125.bel | exact hHeld126.bel | exact hHeld127.bel | exact hHeld128.bel | exact hHeld129.bel)) zt).mono ?_); rintro e wd ⟨bq, Aq, nq, cq, br, Ar, nr, cr, rfl, hb, zq, zr⟩))
        refine hK.out _ _ (hHeld67.next hb) (fun hHeld68 => ?_)
        replace hS5 := hS5.next hb
        replace hS6 := hS6.next hb
        (try replace zt := zt.below hb)
        clear hK K
        try clear hb
        try simp only [Act.put, List.setIfInBounds_toArray, List.set_cons_zero, List.set_cons_succ]
        refine wpAnyH_take (i := 4) (oi := ⟨some 14, _, _, _, _, _⟩) (v := ?_) rfl (by kernel_rfl) (by kernel_rfl) (by kernel_rfl) (fun _ _ _ h => h) (Or.inl ⟨by rfl, ?_⟩) (by assumption) ?_
        rotate_left
        · intro wq hSw; go_simp; (try with_reducible rfl)
        try simp only [Act.put, List.setIfInBounds_toArray, List.set_cons_zero, List.set_cons_succ]
        refine wpAnyH_take (i := 5) (oi := ⟨some 19, _, _, _, _, _⟩) (v := ?_) rfl (by kernel_rfl) (by kernel_rfl) (by kernel_rfl) (fun _ _ _ h => h) (Or.inl ⟨by rfl, ?_⟩) (by assumption) ?_
        rotate_left
        · intro wq hSw; go_simp; (try with_reducible rfl)
        try simp only [Act.put, List.setIfInBounds_toArray, List.set_cons_zero, List.set_cons_succ]
        refine wpAnyH_take (i := 6) (oi := ⟨some 20, _, _, _, _, _⟩) (v := ?_) rfl (by kernel_rfl) (by kernel_rfl) (by kernel_rfl) (fun _ _ _ h => h) (Or.inl ⟨by rfl, ?_⟩) (by assumption) ?_
        rotate_left
        · intro wq hSw; go_simp; (try with_reducible rfl)
        try simp only [Act.put, List.setIfInBounds_toArray, List.set_cons_zero, List.set_cons_succ]
        refine wpAnyH_ready (rs := [9]) (by kernel_rfl) (by simp) ?_
        refine AllReadyH.cons (o := ⟨none, _, _, _, _, _⟩) rfl (fun K hK => ?_) AllReadyH.nil
        obtain ⟨⟨s5z0, s5c0, s5f0⟩, ⟨s5z1, s5c1, s5f1⟩, _⟩ := hS5.2
        go_simp
        refine hK.out _ _ (by (repeat (first | (with_reducible exact hHeld68) | (refine Keeps.set ?_ (by simp <;> omega) (by simp <;> omega) _)))) (fun hHeld69 => ?_)
        replace hS6 := hS6.mv2 hHeld69 (by first | omega | (simp <;> omega)) (by simp <;> omega)
        (try replace zq := zq.store2 hHeld69 s5c0 s5c1)
        (try replace zr := zr.store2 hHeld69 s5c0 s5c1)
        replace hS5 := hHeld69.add2 s5z0 s5c0 s5f0 s5c1 s5f1
        clear s5z0 s5c0 s5f0 s5z1 s5c1 s5f1
        clear hK K
        try clear hb
        try simp only [Act.put, List.setIfInBounds_toArray, List.set_cons_zero, List.set_cons_succ]
        generalize hGWA48 : World.setCell (World.setCell wd ⟨wr.heap.size, 0, none⟩ (.bool bq)) ⟨wr.heap.size, 1, none⟩ (.slice Aq nq cq) = WA48 at *
        clear hGWA48
        refine wpAnyH_ready (rs := [10]) (by kernel_rfl) (by simp) ?_
        refine AllReadyH.cons (o := ⟨none, _, _, _, _, _⟩) rfl (fun K hK => ?_) AllReadyH.nil
        obtain ⟨⟨s6z0, s6c0, s6f0⟩, ⟨s6z1, s6c1, s6f1⟩, _⟩ := hS6.2
        go_simp
        refine hK.out _ _ (by (repeat (first | (with_reducible exact hHeld69) | (refine Keeps.set ?_ (by simp <;> omega) (by simp <;> omega) _)))) (fun hHeld70 => ?_)
        replace hS5 := hS5.mv2 hHeld70 (by first | omega | (simp <;> omega)) (by simp <;> omega)
        (try replace zq := zq.store2 hHeld70 s6c0 s6c1)
        (try replace zr := zr.store2 hHeld70 s6c0 s6c1)
        replace hS6 := hHeld70.add2 s6z0 s6c0 s6f0 s6c1 s6f1
        clear s6z0 s6c0 s6f0 s6z1 s6c1 s6f1
        clear hK K
        try clear hb
        try simp only [Act.put, List.setIfInBounds_toArray, List.set_cons_zero, List.set_cons_succ]
        generalize hGWA49 : World.setCell (World.setCell WA48 ⟨wt.heap.size, 0, none⟩ (.bool br)) ⟨wt.heap.size, 1, none⟩ (.slice Ar nr cr) = WA49 at *
        clear hGWA49
        refine wpAnyH_done (by kernel_rfl) ?_ _
        have hHeld := hHeld70
        rotate_left 1
        exact AllReadyH.nil
        refine AllReadyH.cons (o := ⟨some 6, _, _, _, _, _⟩) rfl (fun K hK => ?_) ?_
        have hne5_6 := hS5.2.1.1
        have lo6 := hHeld61.1.size
        obtain ⟨⟨a6_z0, a6_c0, a6_f0⟩, ⟨a6_z1, a6_c1, a6_f1⟩, ⟨a6_z2, a6_c2, a6_f2⟩, ⟨a6_z3, a6_c3, a6_f3⟩, _⟩ := hHeld61.2
        (try simp at lo6); (try simp at hne5_6); (try simp at a6_z0); (try simp at a6_z1); (try simp at a6_z2); (try simp at a6_z3)
        go_simp
        refine hK.out _ _ (by first | exact hHeld61.alloc _ | exact (hHeld61.alloc _).drew) (fun hHeld71 => ?_)
        first | replace hS5 := hS5.alloc2e hHeld71 | replace hS5 := hS5.alloc2 hHeld71
        (try replace hn2 := hn2.alloc2 hHeld71)
        first | have hS6 := newK2 hHeld71 | have hS6 := newK2d hHeld71
        clear hK K
        try clear hb
        try simp only [Act.put, List.setIfInBounds_toArray, List.set_cons_zero, List.set_cons_succ]
        generalize hGWA50 : World.alloc ws (.cells #[.bool false, .slice none 0 0] 28) = WA50 at *
        clear hGWA50
        refine wpAnyH_ready (rs := [2]) (by kernel_rfl) (by simp) ?_
        refine AllReadyH.cons (o := ⟨some 17, _, _, _, _, _⟩) rfl (fun K hK => ?_) AllReadyH.nil
        go_simp
        (first | ((with_reducible refine (SZ.out _).mono ?_); rintro e ws ⟨A2, n2, c2, rfl, hb, hn2⟩) | ((with_reducible refine (MT.out _ _ hn2).mono ?_); rintro e wt ⟨bt, At, nt, ct, rfl, hb, zt⟩) | ((with_reducible refine (DR.out _ _ _ (HZ.out.below (by first | exact hHeld0.bel | exact hHeld1.bel | exact hHeld2.bel | exact hHeld3.bel | exact hHeld4.bel | exact hHeld5.bel | exact hHeld6.bel | exact hHeld7.bel | exact hHeld8.bel | exact hHeld9.bel | exact hHeld10.bel | exact hHeld11.bel | exact hHeld12.bel | exact hHeld13.bel | exact hHeld14.bel | exact hHeld15.bel | exact hHeld16.bel | exact hHeld17.bel | exact hHeld18.bel | exact hHeld19.bel | exact hHeld20.bel | exact hHeld21.bel | exact hHeld22.bel | exact hHeld23.bel | exact hHeld24.bel | exact hHeld25.bel | exact hHeld26.bel | exact hHeld27.bel | exact hHeld28.bel | exact hHeld29.bel | exact hHeld30.bel | exact hHeld31.bel | exact hHeld32.bel | exact hHeld33.bel | exact hHeld34.bel | exact hHeld35.bel | exact hHeld36.bel | exact hHeld37.bel | exact hHeld38.bel | exact hHeld39.bel | exact hHeld40.bel | exact hHeld41.bel | exact hHeld42.bel | exact hHeld43.bel | exact hHeld44.bel | exact hHeld45.bel | exact hHeld46.bel | exact hHeld47.bel | exact hHeld48.bel | exact hHeld49.bel | exact hHeld50.bel | exact hHeld51.bel | exact hHeld52.bel | exact hHeld53.bel | exact hHeld54.bel | exact hHeld55.bel | exact hHeld56.bel | exact hHeld57.bel | exact hHeld58.bel | exact hHeld59.bel | exact hHeld60.bel | exact hHeld61.bel | exact hHeld62.bel | exact hHeld63.bel | exact hHeld64.bel | exact hHeld65.bel | exact hHeld66.bel | exact hHeld67.bel | exact hHeld68.bel | exact hHeld69.bel | exact hHeld70.bel | exact hHeld71.bel | exact hHeld72.bel | exact hHeld73.bel | exact hHeld74.bel | exact hHeld75.bel | exact hHeld76.bel | exact hHeld77.bel | exact hHeld78.bel | exact hHeld79.bel | exact hHeld80.bel | exact hHeld81.bel | exact hHeld82.bel | exact hHeld83.bel | exact hHeld84.bel | exact hHeld85.bel | exact hHeld86.bel | exact hHeld87.bel | exact hHeld88.bel | exact hHeld89.bel | exact hHeld90.bel | exact hHeld91.bel | exact hHeld92.bel | exact hHeld93.bel | exact hHeld94.bel | exact hHeld95.bel | exact hHeld96.bel | exact hHeld97.bel | exact hHeld98.bel | exact hHeld99.bel | exact hHeld100.bel | exact hHeld101.bel | exact hHeld102.bel | exact hHeld103.bel | exact hHeld104.bel | exact hHeld105.bel | exact hHeld106.bel | exact hHeld107.bel | exact hHeld108.bel | exact hHeld109.bel | exact hHeld110.bel | exact hHeld111.bel | exact hHeld112.bel | exact hHeld113.bel | exact hHeld114.bel | exact hHeld115.bel | exact hHeld116.bel | exact hHeld117.bel | exact hHeld118.bel | exact hHeld119.bel | exact hHeld120.bel | exact hHeld121.bel | exact hHeld122.bel | exact hHeld123.bel | exact hHeld124.bel | exact hHeld125.bel | exact hHeld126.bel | exact hHeld127.bel | exact hHeld128.bel | exact hHeld129.bel)) zt).mono ?_); rintro e wd ⟨bq, Aq, nq, cq, br, Ar, nr, cr, rfl, hb, zq, zr⟩))
        refine hK.out _ _ (hHeld71.next hb) (fun hHeld72 => ?_)
        replace hS5 := hS5.next hb
        replace hS6 := hS6.next hb
        (try replace hn2 := hn2.below hb)
        clear hK K
        try clear hb
        try simp only [Act.put, List.setIfInBounds_toArray, List.set_cons_zero, List.set_cons_succ]
        refine wpAnyH_ready (rs := [3]) (by kernel_rfl) (by simp) ?_
        refine AllReadyH.cons (o := ⟨some 18, _, _, _, _, _⟩) rfl (fun K hK => ?_) AllReadyH.nil
        go_simp
        (first | ((with_reducible refine (SZ.out _).mono ?_); rintro e ws ⟨A2, n2, c2, rfl, hb, hn2⟩) | ((with_reducible refine (MT.out _ _ hn2).mono ?_); rintro e wt ⟨bt, At, nt, ct, rfl, hb, zt⟩) | ((with_reducible refine (DR.out _ _ _ (HZ.out.below (by first | exact hHeld0.bel | exact hHeld1.bel | exact hHeld2.bel | exact hHeld3.bel | exact hHeld4.bel | exact hHeld5.bel | exact hHeld6.bel | exact hHeld7.bel | exact hHeld8.bel | exact hHeld9.bel | exact hHeld10.bel | exact hHeld11.bel | exact hHeld12.bel | exact hHeld13.bel | exact hHeld14.bel | exact hHeld15.bel | exact hHeld16.bel | exact hHeld17.bel | exact hHeld18.bel | exact hHeld19.bel | exact hHeld20.bel | exact hHeld21.bel | exact hHeld22.bel | exact hHeld23.bel | exact hHeld24.bel | exact hHeld25.bel | exact hHeld26.bel | exact hHeld27.bel | exact hHeld28.bel | exact hHeld29.bel | exact hHeld30.bel | exact hHeld31.bel | exact hHeld32.bel | exact hHeld33.bel | exact hHeld34.bel | exact hHeld35.bel | exact hHeld36.bel | exact hHeld37.bel | exact hHeld38.bel | exact hHeld39.bel | exact hHeld40.bel | exact hHeld41.bel | exact hHeld42.bel | exact hHeld43.bel | exact hHeld44.bel | exact hHeld45.bel | exact hHeld46.bel | exact hHeld47.bel | exact hHeld48.bel | exact hHeld49.bel | exact hHeld50.bel | exact hHeld51.bel | exact hHeld52.bel | exact hHeld53.bel | exact hHeld54.bel | exact hHeld55.bel | exact hHeld56.bel | exact hHeld57.bel | exact hHeld58.bel | exact hHeld59.bel | exact hHeld60.bel | exact hHeld61.bel | exact hHeld62.bel | exact hHeld63.bel | exact hHeld64.bel | exact hHeld65.bel | exact hHeld66.bel | exact hHeld67.bel | exact hHeld68.bel | exact hHeld69.bel | exact hHeld70.bel | exact hHeld71.bel | exact hHeld72.bel | exact hHeld73.bel | exact hHeld74.bel | exact hHeld75.bel | exact hHeld76.bel | exact hHeld77.bel | exact hHeld78.bel | exact hHeld79.bel | exact hHeld80.bel | exact hHeld81.bel | exact hHeld82.bel | exact hHeld83.bel | exact hHeld84.bel | exact hHeld85.bel | exact hHeld86.bel | exact hHeld87.bel | exact hHeld88.bel | exact hHeld89.bel | exact hHeld90.bel | exact hHeld91.bel | exact hHeld92.bel | exact hHeld93.bel | exact hHeld94.bel | exact hHeld95.bel | exact hHeld96.bel | exact hHeld97.bel | exact hHeld98.bel | exact hHeld99.bel | exact hHeld100.bel | exact hHeld101.bel | exact hHeld102.bel | exact hHeld103.bel | exact hHeld104.bel | exact hHeld105.bel | exact hHeld106.bel | exact hHeld107.bel | exact hHeld108.bel | exact hHeld109.bel | exact hHeld110.bel | exact hHeld111.bel | exact hHeld112.bel | exact hHeld113.bel | exact hHeld114.bel | exact hHeld115.bel | exact hHeld116.bel | exact hHeld117.bel | exact hHeld118.bel | exact hHeld119.bel | exact hHeld120.bel | exact hHeld121.bel | exact hHeld122.bel | exact hHeld123.bel | exact hHeld124.bel | exact hHeld125.bel | exact hHeld126.bel | exact hHeld127.bel | exact hHeld128.bel | exact hHeld129.bel)) zt).mono ?_); rintro e wd ⟨bq, Aq, nq, cq, br, Ar, nr, cr, rfl, hb, zq, zr⟩))
        refine hK.out _ _ (hHeld72.next hb) (fun hHeld73 => ?_)
        replace hS5 := hS5.next hb
        replace hS6 := hS6.next hb
        (try replace zt := zt.below hb)
        clear hK K
        try clear hb
        try simp only [Act.put, List.setIfInBounds_toArray, List.set_cons_zero, List.set_cons_succ]
        refine wpAnyH_take (i := 4) (oi := ⟨some 14, _, _, _, _, _⟩) (v := ?_) rfl (by kernel_rfl) (by kernel_rfl) (by kernel_rfl) (fun _ _ _ h => h) (Or.inl ⟨by rfl, ?_⟩) (by assumption) ?_
        rotate_left
        · intro wq hSw; go_simp; (try with_reducible rfl)
        try simp only [Act.put, List.setIfInBounds_toArray, List.set_cons_zero, List.set_cons_succ]
        refine wpAnyH_take (i := 5) (oi := ⟨some 19, _, _, _, _, _⟩) (v := ?_) rfl (by kernel_rfl) (by kernel_rfl) (by kernel_rfl) (fun _ _ _ h => h) (Or.inl ⟨by rfl, ?_⟩) (by assumption) ?_
        rotate_left
        · intro wq hSw; go_simp; (try with_reducible rfl)
        try simp only [Act.put, List.setIfInBounds_toArray, List.set_cons_zero, List.set_cons_succ]
        refine wpAnyH_take (i := 6) (oi := ⟨some 20, _, _, _, _, _⟩) (v := ?_) rfl (by kernel_rfl) (by kernel_rfl) (by kernel_rfl) (fun _ _ _ h => h) (Or.inl ⟨by rfl, ?_⟩) (by assumption) ?_
        rotate_left
        · intro wq hSw; go_simp; (try with_reducible rfl)
        try simp only [Act.put, List.setIfInBounds_toArray, List.set_cons_zero, List.set_cons_succ]
        refine wpAnyH_ready (rs := [9]) (by kernel_rfl) (by simp) ?_
        refine AllReadyH.cons (o := ⟨none, _, _, _, _, _⟩) rfl (fun K hK => ?_) AllReadyH.nil
        obtain ⟨⟨s5z0, s5c0, s5f0⟩, ⟨s5z1, s5c1, s5f1⟩, _⟩ := hS5.2
        go_simp
        refine hK.out _ _ (by (repeat (first | (with_reducible exact hHeld73) | (refine Keeps.set ?_ (by simp <;> omega) (by simp <;> omega) _)))) (fun hHeld74 => ?_)
        replace hS6 := hS6.mv2 hHeld74 (by first | omega | (simp <;> omega)) (by simp <;> omega)
        (try replace zq := zq.store2 hHeld74 s5c0 s5c1)
        (try replace zr := zr.store2 hHeld74 s5c0 s5c1)
        replace hS5 := hHeld74.add2 s5z0 s5c0 s5f0 s5c1 s5f1
        clear s5z0 s5c0 s5f0 s5z1 s5c1 s5f1
        clear hK K
        try clear hb
        try simp only [Act.put, List.setIfInBounds_toArray, List.set_cons_zero, List.set_cons_succ]
        generalize hGWA51 : World.setCell (World.setCell wd ⟨wr.heap.size, 0, none⟩ (.bool bq)) ⟨wr.heap.size, 1, none⟩ (.slice Aq nq cq) = WA51 at *
        clear hGWA51
        refine wpAnyH_ready (rs := [10]) (by kernel_rfl) (by simp) ?_
        refine AllReadyH.cons (o := ⟨none, _, _, _, _, _⟩) rfl (fun K hK => ?_) AllReadyH.nil
        obtain ⟨⟨s6z0, s6c0, s6f0⟩, ⟨s6z1, s6c1, s6f1⟩, _⟩ := hS6.2
        go_simp
        refine hK.out _ _ (by (repeat (first | (with_reducible exact hHeld74) | (refine Keeps.set ?_ (by simp <;> omega) (by simp <;> omega) _)))) (fun hHeld75 => ?_)
        replace hS5 := hS5.mv2 hHeld75 (by first | omega | (simp <;> omega)) (by simp <;> omega)
        (try replace zq := zq.store2 hHeld75 s6c0 s6c1)
        (try replace zr := zr.store2 hHeld75 s6c0 s6c1)
        replace hS6 := hHeld75.add2 s6z0 s6c0 s6f0 s6c1 s6f1
        clear s6z0 s6c0 s6f0 s6z1 s6c1 s6f1
        clear hK K
        try clear hb
        try simp only [Act.put, List.setIfInBounds_toArray, List.set_cons_zero, List.set_cons_succ]
        generalize hGWA52 : World.setCell (World.setCell WA51 ⟨ws.heap.size, 0, none⟩ (.bool br)) ⟨ws.heap.size, 1, none⟩ (.slice Ar nr cr) = WA52 at *
        clear hGWA52
        refine wpAnyH_done (by kernel_rfl) ?_ _
        have hHeld := hHeld75
        rotate_left 1
        exact AllReadyH.nil
        refine AllReadyH.cons (o := ⟨some 6, _, _, _, _, _⟩) rfl (fun K hK => ?_) ?_
        have hne5_6 := hS5.2.1.1
        have lo6 := hHeld60.1.size
        obtain ⟨⟨a6_z0, a6_c0, a6_f0⟩, ⟨a6_z1, a6_c1, a6_f1⟩, ⟨a6_z2, a6_c2, a6_f2⟩, ⟨a6_z3, a6_c3, a6_f3⟩, _⟩ := hHeld60.2
        (try simp at lo6); (try simp at hne5_6); (try simp at a6_z0); (try simp at a6_z1); (try simp at a6_z2); (try simp at a6_z3)
        go_simp
        refine hK.out _ _ (by first | exact hHeld60.alloc _ | exact (hHeld60.alloc _).drew) (fun hHeld76 => ?_)
        first | replace hS5 := hS5.alloc2e hHeld76 | replace hS5 := hS5.alloc2 hHeld76
        first | have hS6 := newK2 hHeld76 | have hS6 := newK2d hHeld76
        clear hK K
        try clear hb
        try simp only [Act.put, List.setIfInBounds_toArray, List.set_cons_zero, List.set_cons_succ]
        generalize hGWA53 : World.alloc WA43 (.cells #[.bool false, .slice none 0 0] 28) = WA53 at *
        clear hGWA53
        refine wpAnyH_ready (rs := [1]) (by kernel_rfl) (by simp) ?_
        refine AllReadyH.cons (o := ⟨some 16, _, _, _, _, _⟩) rfl (fun K hK => ?_) AllReadyH.nil
        go_simp
        (first | ((with_reducible refine (SZ.out _).mono ?_); rintro e ws ⟨A2, n2, c2, rfl, hb, hn2⟩) | ((with_reducible refine (MT.out _ _ hn2).mono ?_); rintro e wt ⟨bt, At, nt, ct, rfl, hb, zt⟩) | ((with_reducible refine (DR.out _ _ _ (HZ.out.below (by first | exact hHeld0.bel | exact hHeld1.bel | exact hHeld2.bel | exact hHeld3.bel | exact hHeld4.bel | exact hHeld5.bel | exact hHeld6.bel | exact hHeld7.bel | exact hHeld8.bel | exact hHeld9.bel | exact hHeld10.bel | exact hHeld11.bel | exact hHeld12.bel | exact hHeld13.bel | exact hHeld14.bel | exact hHeld15.bel | exact hHeld16.bel | exact hHeld17.bel | exact hHeld18.bel | exact hHeld19.bel | exact hHeld20.bel | exact hHeld21.bel | exact hHeld22.bel | exact hHeld23.bel | exact hHeld24.bel | exact hHeld25.bel | exact hHeld26.bel | exact hHeld27.bel | exact hHeld28.bel | exact hHeld29.bel | exact hHeld30.bel | exact hHeld31.bel | exact hHeld32.bel | exact hHeld33.bel | exact hHeld34.bel | exact hHeld35.bel | exact hHeld36.bel | exact hHeld37.bel | exact hHeld38.bel | exact hHeld39.bel | exact hHeld40.bel | exact hHeld41.bel | exact hHeld42.bel | exact hHeld43.bel | exact hHeld44.bel | exact hHeld45.bel | exact hHeld46.bel | exact hHeld47.bel | exact hHeld48.bel | exact hHeld49.bel | exact hHeld50.bel | exact hHeld51.bel | exact hHeld52.bel | exact hHeld53.bel | exact hHeld54.bel | exact hHeld55.bel | exact hHeld56.bel | exact hHeld57.bel | exact hHeld58.bel | exact hHeld59.bel | exact hHeld60.bel | exact hHeld61.bel | exact hHeld62.bel | exact hHeld63.bel | exact hHeld64.bel | exact hHeld65.bel | exact hHeld66.bel | exact hHeld67.bel | exact hHeld68.bel | exact hHeld69.bel | exact hHeld70.bel | exact hHeld71.bel | exact hHeld72.bel | exact hHeld73.bel | exact hHeld74.bel | exact hHeld75.bel | exact hHeld76.bel | exact hHeld77.bel | exact hHeld78.bel | exact hHeld79.bel | exact hHeld80.bel | exact hHeld81.bel | exact hHeld82.bel | exact hHeld83.bel | exact hHeld84.bel | exact hHeld85.bel | exact hHeld86.bel | exact hHeld87.bel | exact hHeld88.bel | exact hHeld89.bel | exact hHeld90.bel | exact hHeld91.bel | exact hHeld92.bel | exact hHeld93.bel | exact hHeld94.bel | exact hHeld95.bel | exact hHeld96.bel | exact hHeld97.bel | exact hHeld98.bel | exact hHeld99.bel | exact hHeld100.bel | exact hHeld101.bel | exact hHeld102.bel | exact hHeld103.bel | exact hHeld104.bel | exact hHeld105.bel | exact hHeld106.bel | exact hHeld107.bel | exact hHeld108.bel | exact hHeld109.bel | exact hHeld110.bel | exact hHeld111.bel | exact hHeld112.bel | exact hHeld113.bel | exact hHeld114.bel | exact hHeld115.bel | exact hHeld116.bel | exact hHeld117.bel | exact hHeld118.bel | exact hHeld119.bel | exact hHeld120.bel | exact hHeld121.bel | exact hHeld122.bel | exact hHeld123.bel | exact hHeld124.bel | exact hHeld125.bel | exact hHeld126.bel | exact hHeld127.bel | exact hHeld128.bel | exact hHeld129.bel)) zt).mono ?_); rintro e wd ⟨bq, Aq, nq, cq, br, Ar, nr, cr, rfl, hb, zq, zr⟩))
        refine hK.out _ _ (hHeld76.next hb) (fun hHeld77 => ?_)
        replace hS5 := hS5.next hb
        replace hS6 := hS6.next hb
        clear hK K
        try clear hb
        try simp only [Act.put, List.setIfInBounds_toArray, List.set_cons_zero, List.set_cons_succ]
        refine wpAnyH_ready (rs := [2]) (by kernel_rfl) (by simp) ?_
        refine AllReadyH.cons (o := ⟨some 17, _, _, _, _, _⟩) rfl (fun K hK => ?_) AllReadyH.nil
        go_simp
        (first | ((with_reducible refine (SZ.out _).mono ?_); rintro e ws ⟨A2, n2, c2, rfl, hb, hn2⟩) | ((with_reducible refine (MT.out _ _ hn2).mono ?_); rintro e wt ⟨bt, At, nt, ct, rfl, hb, zt⟩) | ((with_reducible refine (DR.out _ _ _ (HZ.out.below (by first | exact hHeld0.bel | exact hHeld1.bel | exact hHeld2.bel | exact hHeld3.bel | exact hHeld4.bel | exact hHeld5.bel | exact hHeld6.bel | exact hHeld7.bel | exact hHeld8.bel | exact hHeld9.bel | exact hHeld10.bel | exact hHeld11.bel | exact hHeld12.bel | exact hHeld13.bel | exact hHeld14.bel | exact hHeld15.bel | exact hHeld16.bel | exact hHeld17.bel | exact hHeld18.bel | exact hHeld19.bel | exact hHeld20.bel | exact hHeld21.bel | exact hHeld22.bel | exact hHeld23.bel | exact hHeld24.bel | exact hHeld25.bel | exact hHeld26.bel | exact hHeld27.bel | exact hHeld28.bel | exact hHeld29.bel | exact hHeld30.bel | exact hHeld31.bel | exact hHeld32.bel | exact hHeld33.bel | exact hHeld34.bel | exact hHeld35.bel | exact hHeld36.bel | exact hHeld37.bel | exact hHeld38.bel | exact hHeld39.bel | exact hHeld40.bel | exact hHeld41.bel | exact hHeld42.bel | exact hHeld43.bel | exact hHeld44.bel | exact hHeld45.bel | exact hHeld46.bel | exact hHeld47.bel | exact hHeld48.bel | exact hHeld49.bel | exact hHeld50.bel | exact hHeld51.bel | exact hHeld52.bel | exact hHeld53.bel | exact hHeld54.bel | exact hHeld55.bel | exact hHeld56.bel | exact hHeld57.bel | exact hHeld58.bel | exact hHeld59.bel | exact hHeld60.bel | exact hHeld61.bel | exact hHeld62.bel | exact hHeld63.bel | exact hHeld64.bel | exact hHeld65.bel | exact hHeld66.bel | exact hHeld67.bel | exact hHeld68.bel | exact hHeld69.bel | exact hHeld70.bel | exact hHeld71.bel | exact hHeld72.bel | exact hHeld73.bel | exact hHeld74.bel | exact hHeld75.bel | exact hHeld76.bel | exact hHeld77.bel | exact hHeld78.bel | exact hHeld79.bel | exact hHeld80.bel | exact hHeld81.bel | exact hHeld82.bel | exact hHeld83.bel | exact hHeld84.bel | exact hHeld85.bel | exact hHeld86.bel | exact hHeld87.bel | exact hHeld88.bel | exact hHeld89.bel | exact hHeld90.bel | exact hHeld91.bel | exact hHeld92.bel | exact hHeld93.bel | exact hHeld94.bel | exact hHeld95.bel | exact hHeld96.bel | exact hHeld97.bel | exact hHeld98.bel | exact hHeld99.bel | exact hHeld100.bel | exact hHeld101.bel | exact hHeld102.bel | exact hHeld103.bel | exact hHeld104.bel | exact hHeld105.bel | exact hHeld106.bel | exact hHeld107.bel | exact hHeld108.bel | exact hHeld109.bel | exact hHeld110.bel | exact hHeld111.bel | exact hHeld112.bel | exact hHeld113.bel | exact hHeld114.bel | exact hHeld115.bel | exact hHeld116.bel | exact hHeld117.bel | exact hHeld118.bel | exact hHeld119.bel | exact hHeld120.bel | exact hHeld121.bel | exact hHeld122.bel | exact hHeld123.bel | exact hHeld124.bel | exact hHeld125.bel | exact hHeld126.bel | exact hHeld127.bel | exact hHeld128.bel | exact hHeld129.bel)) zt).mono ?_); rintro e wd ⟨bq, Aq, nq, cq, br, Ar, nr, cr, rfl, hb, zq, zr⟩))
        refine hK.out _ _ (hHeld77.next hb) (fun hHeld78 => ?_)
        replace hS5 := hS5.next hb
        replace hS6 := hS6.next hb
        (try replace hn2 := hn2.below hb)
        clear hK K
        try clear hb
        try simp only [Act.put, List.setIfInBounds_toArray, List.set_cons_zero, List.set_cons_succ]
        refine wpAnyH_ready (rs := [3]) (by kernel_rfl) (by simp) ?_
        refine AllReadyH.cons (o := ⟨some 18, _, _, _, _, _⟩) rfl (fun K hK => ?_) AllReadyH.nil
        go_simp
        (first | ((with_reducible refine (SZ.out _).mono ?_); rintro e ws ⟨A2, n2, c2, rfl, hb, hn2⟩) | ((with_reducible refine (MT.out _ _ hn2).mono ?_); rintro e wt ⟨bt, At, nt, ct, rfl, hb, zt⟩) | ((with_reducible refine (DR.out _ _ _ (HZ.out.below (by first | exact hHeld0.bel | exact hHeld1.bel | exact hHeld2.bel | exact hHeld3.bel | exact hHeld4.bel | exact hHeld5.bel | exact hHeld6.bel | exact hHeld7.bel | exact hHeld8.bel | exact hHeld9.bel | exact hHeld10.bel | exact hHeld11.bel | exact hHeld12.bel | exact hHeld13.bel | exact hHeld14.bel | exact hHeld15.bel | exact hHeld16.bel | exact hHeld17.bel | exact hHeld18.bel | exact hHeld19.bel | exact hHeld20.bel | exact hHeld21.bel | exact hHeld22.bel | exact hHeld23.bel | exact hHeld24.bel | exact hHeld25.bel | exact hHeld26.bel | exact hHeld27.bel | exact hHeld28.bel | exact hHeld29.bel | exact hHeld30.bel | exact hHeld31.bel | exact hHeld32.bel | exact hHeld33.bel | exact hHeld34.bel | exact hHeld35.bel | exact hHeld36.bel | exact hHeld37.bel | exact hHeld38.bel | exact hHeld39.bel | exact hHeld40.bel | exact hHeld41.bel | exact hHeld42.bel | exact hHeld43.bel | exact hHeld44.bel | exact hHeld45.bel | exact hHeld46.bel | exact hHeld47.bel | exact hHeld48.bel | exact hHeld49.bel | exact hHeld50.bel | exact hHeld51.bel | exact hHeld52.bel | exact hHeld53.bel | exact hHeld54.bel | exact hHeld55.bel | exact hHeld56.bel | exact hHeld57.bel | exact hHeld58.bel | exact hHeld59.bel | exact hHeld60.bel | exact hHeld61.bel | exact hHeld62.bel | exact hHeld63.bel | exact hHeld64.bel | exact hHeld65.bel | exact hHeld66.bel | exact hHeld67.bel | exact hHeld68.bel | exact hHeld69.bel | exact hHeld70.bel | exact hHeld71.bel | exact hHeld72.bel | exact hHeld73.bel | exact hHeld74.bel | exact hHeld75.bel | exact hHeld76.bel | exact hHeld77.bel | exact hHeld78.bel | exact hHeld79.bel | exact hHeld80.bel | exact hHeld81.bel | exact hHeld82.bel | exact hHeld83.bel | exact hHeld84.bel | exact hHeld85.bel | exact hHeld86.bel | exact hHeld87.bel | exact hHeld88.bel | exact hHeld89.bel | exact hHeld90.bel | exact hHeld91.bel | exact hHeld92.bel | exact hHeld93.bel | exact hHeld94.bel | exact hHeld95.bel | exact hHeld96.bel | exact hHeld97.bel | exact hHeld98.bel | exact hHeld99.bel | exact hHeld100.bel | exact hHeld101.bel | exact hHeld102.bel | exact hHeld103.bel | exact hHeld104.bel | exact hHeld105.bel | exact hHeld106.bel | exact hHeld107.bel | exact hHeld108.bel | exact hHeld109.bel | exact hHeld110.bel | exact hHeld111.bel | exact hHeld112.bel | exact hHeld113.bel | exact hHeld114.bel | exact hHeld115.bel | exact hHeld116.bel | exact hHeld117.bel | exact hHeld118.bel | exact hHeld119.bel | exact hHeld120.bel | exact hHeld121.bel | exact hHeld122.bel | exact hHeld123.bel | exact hHeld124.bel | exact hHeld125.bel | exact hHeld126.bel | exact hHeld127.bel | exact hHeld128.bel | exact hHeld129.bel)) zt).mono ?_); rintro e wd ⟨bq, Aq, nq, cq, br, Ar, nr, cr, rfl, hb, zq, zr⟩))
        refine hK.out _ _ (hHeld78.next hb) (fun hHeld79 => ?_)
        replace hS5 := hS5.next hb
        replace hS6 := hS6.next hb
        (try replace zt := zt.below hb)
        clear hK K
        try clear hb
        try simp only [Act.put, List.setIfInBounds_toArray, List.set_cons_zero, List.set_cons_succ]
        refine wpAnyH_take (i := 4) (oi := ⟨some 14, _, _, _, _, _⟩) (v := ?_) rfl (by kernel_rfl) (by kernel_rfl) (by kernel_rfl) (fun _ _ _ h => h) (Or.inl ⟨by rfl, ?_⟩) (by assumption) ?_
        rotate_left
        · intro wq hSw; go_simp; (try with_reducible rfl)
        try simp only [Act.put, List.setIfInBounds_toArray, List.set_cons_zero, List.set_cons_succ]
        refine wpAnyH_take (i := 5) (oi := ⟨some 19, _, _, _, _, _⟩) (v := ?_) rfl (by kernel_rfl) (by kernel_rfl) (by kernel_rfl) (fun _ _ _ h => h) (Or.inl ⟨by rfl, ?_⟩) (by assumption) ?_
        rotate_left
        · intro wq hSw; go_simp; (try with_reducible rfl)
        try simp only [Act.put, List.setIfInBounds_toArray, List.set_cons_zero, List.set_cons_succ]
        refine wpAnyH_take (i := 6) (oi := ⟨some 20, _, _, _, _, _⟩) (v := ?_) rfl (by kernel_rfl) (by kernel_rfl) (by kernel_rfl) (fun _ _ _ h => h) (Or.inl ⟨by rfl, ?_⟩) (by assumption) ?_
        rotate_left
        · intro wq hSw; go_simp; (try with_reducible rfl)
        try simp only [Act.put, List.setIfInBounds_toArray, List.set_cons_zero, List.set_cons_succ]
        refine wpAnyH_ready (rs := [9]) (by kernel_rfl) (by simp) ?_
        refine AllReadyH.cons (o := ⟨none, _, _, _, _, _⟩) rfl (fun K hK => ?_) AllReadyH.nil
        obtain ⟨⟨s5z0, s5c0, s5f0⟩, ⟨s5z1, s5c1, s5f1⟩, _⟩ := hS5.2
        go_simp
        refine hK.out _ _ (by (repeat (first | (with_reducible exact hHeld79) | (refine Keeps.set ?_ (by simp <;> omega) (by simp <;> omega) _)))) (fun hHeld80 => ?_)
        replace hS6 := hS6.mv2 hHeld80 (by first | omega | (simp <;> omega)) (by simp <;> omega)
        (try replace zq := zq.store2 hHeld80 s5c0 s5c1)
        (try replace zr := zr.store2 hHeld80 s5c0 s5c1)
        replace hS5 := hHeld80.add2 s5z0 s5c0 s5f0 s5c1 s5f1
        clear s5z0 s5c0 s5f0 s5z1 s5c1 s5f1
        clear hK K
        try clear hb
        try simp only [Act.put, List.setIfInBounds_toArray, List.set_cons_zero, List.set_cons_succ]
        generalize hGWA54 : World.setCell (World.setCell wd ⟨wr.heap.size, 0, none⟩ (.bool bq)) ⟨wr.heap.size, 1, none⟩ (.slice Aq nq cq) = WA54 at *
        clear hGWA54
        refine wpAnyH_ready (rs := [10]) (by kernel_rfl) (by simp) ?_
        refine AllReadyH.cons (o := ⟨none, _, _, _, _, _⟩) rfl (fun K hK => ?_) AllReadyH.nil
        obtain ⟨⟨s6z0, s6c0, s6f0⟩, ⟨s6z1, s6c1, s6f1⟩, _⟩ := hS6.2
        go_simp
        refine hK.out _ _ (by (repeat (first | (with_reducible exact hHeld80) | (refine Keeps.set ?_ (by simp <;> omega) (by simp <;> omega) _)))) (fun hHeld81 => ?_)
        replace hS5 := hS5.mv2 hHeld81 (by first | omega | (simp <;> omega)) (by simp <;> omega)
        (try replace zq := zq.store2 hHeld81 s6c0 s6c1)
        (try replace zr := zr.store2 hHeld81 s6c0 s6c1)
        replace hS6 := hHeld81.add2 s6z0 s6c0 s6f0 s6c1 s6f1
        clear s6z0 s6c0 s6f0 s6z1 s6c1 s6f1
        clear hK K
        try clear hb
        try simp only [Act.put, List.setIfInBounds_toArray, List.set_cons_zero, List.set_cons_succ]
        generalize hGWA55 : World.setCell (World.setCell WA54 ⟨WA43.heap.size, 0, none⟩ (.bool br)) ⟨WA43.heap.size, 1, none⟩ (.slice Ar nr cr) = WA55 at *
        clear hGWA55
        refine wpAnyH_done (by kernel_rfl) ?_ _
        have hHeld := hHeld81
        rotate_left 1
        exact AllReadyH.nil
        refine AllReadyH.cons (o := ⟨some 6, _, _, _, _, _⟩) rfl (fun K hK => ?_) ?_
        have lo6 := hHeld0.1.size
        obtain ⟨⟨a6_z0, a6_c0, a6_f0⟩, ⟨a6_z1, a6_c1, a6_f1⟩, ⟨a6_z2, a6_c2, a6_f2⟩, ⟨a6_z3, a6_c3, a6_f3⟩, _⟩ := hHeld0.2
        (try simp at lo6); (try simp at a6_z0); (try simp at a6_z1); (try simp at a6_z2); (try simp at a6_z3)
        go_simp
        refine hK.out _ _ (by first | exact hHeld0.alloc _ | exact (hHeld0.alloc _).drew) (fun hHeld82 => ?_)
        first | have hS6 := newK2 hHeld82 | have hS6 := newK2d hHeld82
        clear hK K
        try clear hb
        try simp only [Act.put, List.setIfInBounds_toArray, List.set_cons_zero, List.set_cons_succ]
        generalize hGWA56 : World.alloc wr (.cells #[.bool false, .slice none 0 0] 28) = WA56 at *
        clear hGWA56
        refine wpAnyH_ready (rs := [1, 7]) (by kernel_rfl) (by simp) ?_
        refine AllReadyH.cons (o := ⟨some 16, _, _, _, _, _⟩) rfl (fun K hK => ?_) ?_
        go_simp
        (first | ((with_reducible refine (SZ.out _).mono ?_); rintro e ws ⟨A2, n2, c2, rfl, hb, hn2⟩) | ((with_reducible refine (MT.out _ _ hn2).mono ?_); rintro e wt ⟨bt, At, nt, ct, rfl, hb, zt⟩) | ((with_reducible refine (DR.out _ _ _ (HZ.out.below (by first | exact hHeld0.bel | exact hHeld1.bel | exact hHeld2.bel | exact hHeld3.bel | exact hHeld4.bel | exact hHeld5.bel | exact hHeld6.bel | exact hHeld7.bel | exact hHeld8.bel | exact hHeld9.bel | exact hHeld10.bel | exact hHeld11.bel | exact hHeld12.bel | exact hHeld13.bel | exact hHeld14.bel | exact hHeld15.bel | exact hHeld16.bel | exact hHeld17.bel | exact hHeld18.bel | exact hHeld19.bel | exact hHeld20.bel | exact hHeld21.bel | exact hHeld22.bel | exact hHeld23.bel | exact hHeld24.bel | exact hHeld25.bel | exact hHeld26.bel | exact hHeld27.bel | exact hHeld28.bel | exact hHeld29.bel | exact hHeld30.bel | exact hHeld31.bel | exact hHeld32.bel | exact hHeld33.bel | exact hHeld34.bel | exact hHeld35.bel | exact hHeld36.bel | exact hHeld37.bel | exact hHeld38.bel | exact hHeld39.bel | exact hHeld40.bel | exact hHeld41.bel | exact hHeld42.bel | exact hHeld43.bel | exact hHeld44.bel | exact hHeld45.bel | exact hHeld46.bel | exact hHeld47.bel | exact hHeld48.bel | exact hHeld49.bel | exact hHeld50.bel | exact hHeld51.bel | exact hHeld52.bel | exact hHeld53.bel | exact hHeld54.bel | exact hHeld55.bel | exact hHeld56.bel | exact hHeld57.bel | exact hHeld58.bel | exact hHeld59.bel | exact hHeld60.bel | exact hHeld61.bel | exact hHeld62.bel | exact hHeld63.bel | exact hHeld64.bel | exact hHeld65.bel | exact hHeld66.bel | exact hHeld67.bel | exact hHeld68.bel | exact hHeld69.bel | exact hHeld70.bel | exact hHeld71.bel | exact hHeld72.bel | exact hHeld73.bel | exact hHeld74.bel | exact hHeld75.bel | exact hHeld76.bel | exact hHeld77.bel | exact hHeld78.bel | exact hHeld79.bel | exact hHeld80.bel | exact hHeld81.bel | exact hHeld82.bel | exact hHeld83.bel | exact hHeld84.bel | exact hHeld85.bel | exact hHeld86.bel | exact hHeld87.bel | exact hHeld88.bel | exact hHeld89.bel | exact hHeld90.bel | exact hHeld91.bel | exact hHeld92.bel | exact hHeld93.bel | exact hHeld94.bel | exact hHeld95.bel | exact hHeld96.bel | exact hHeld97.bel | exact hHeld98.bel | exact hHeld99.bel | exact hHeld100.bel | exact hHeld101.bel | exact hHeld102.bel | exact hHeld103.bel | exact hHeld104.bel | exact hHeld105.bel | exact hHeld106.bel | exact hHeld107.bel | exact hHeld108.bel | exact hHeld109.bel | exact hHeld110.bel | exact hHeld111.bel | exact hHeld112.bel | exact hHeld113.bel | exact hHeld114.bel | exact hHeld115.bel | exact hHeld116.bel | exact hHeld117.bel | exact hHeld118.bel | exact hHeld119.bel | exact hHeld120.bel | exact hHeld121.bel | exact hHeld122.bel | exact hHeld123.bel | exact hHeld124.bel | exact hHeld125.bel | exact hHeld126.bel | exact hHeld127.bel | exact hHeld128.bel | exact hHeld129.bel)) zt).mono ?_); rintro e wd ⟨bq, Aq, nq, cq, br, Ar, nr, cr, rfl, hb, zq, zr⟩))
        refine hK.out _ _ (hHeld82.next hb) (fun hHeld83 => ?_)
        replace hS6 := hS6.next hb
        clear hK K
        try clear hb
        try simp only [Act.put, List.setIfInBounds_toArray, List.set_cons_zero, List.set_cons_succ]
        refine wpAnyH_ready (rs := [2, 7]) (by kernel_rfl) (by simp) ?_
        refine AllReadyH.cons (o := ⟨some 17, _, _, _, _, _⟩) rfl (fun K hK => ?_) ?_
        go_simp
        (first | ((with_reducible refine (SZ.out _).mono ?_); rintro e ws ⟨A2, n2, c2, rfl, hb, hn2⟩) | ((with_reducible refine (MT.out _ _ hn2).mono ?_); rintro e wt ⟨bt, At, nt, ct, rfl, hb, zt⟩) | ((with_reducible refine (DR.out _ _ _ (HZ.out.below (by first | exact hHeld0.bel | exact hHeld1.bel | exact hHeld2.bel | exact hHeld3.bel | exact hHeld4.bel | exact hHeld5.bel | exact hHeld6.bel | exact hHeld7.bel | exact hHeld8.bel | exact hHeld9.bel | exact hHeld10.bel | exact hHeld11.bel | exact hHeld12.bel | exact hHeld13.bel | exact hHeld14.bel | exact hHeld15.bel | exact hHeld16.bel | exact hHeld17.bel | exact hHeld18.bel | exact hHeld19.bel | exact hHeld20.bel | exact hHeld21.bel | exact hHeld22.bel | exact hHeld23.bel | exact hHeld24.bel | exact hHeld25.bel | exact hHeld26.bel | exact hHeld27.bel | exact hHeld28.bel | exact hHeld29.bel | exact hHeld30.bel | exact hHeld31.bel | exact hHeld32.bel | exact hHeld33.bel | exact hHeld34.bel | exact hHeld35.bel | exact hHeld36.bel | exact hHeld37.bel | exact hHeld38.bel | exact hHeld39.bel | exact hHeld40.bel | exact hHeld41.bel | exact hHeld42.bel | exact hHeld43.bel | exact hHeld44.bel | exact hHeld45.bel | exact hHeld46.bel | exact hHeld47.bel | exact hHeld48.bel | exact hHeld49.bel | exact hHeld50.bel | exact hHeld51.bel | exact hHeld52.bel | exact hHeld53.bel | exact hHeld54.bel | exact hHeld55.bel | exact hHeld56.bel | exact hHeld57.bel | exact hHeld58.bel | exact hHeld59.bel | exact hHeld60.bel | exact hHeld61.bel | exact hHeld62.bel | exact hHeld63.bel | exact hHeld64.bel | exact hHeld65.bel | exact hHeld66.bel | exact hHeld67.bel | exact hHeld68.bel | exact hHeld69.bel | exact hHeld70.bel | exact hHeld71.bel | exact hHeld72.bel | exact hHeld73.bel | exact hHeld74.bel | exact hHeld75.bel | exact hHeld76.bel | exact hHeld77.bel | exact hHeld78.bel | exact hHeld79.bel | exact hHeld80.bel | exact hHeld81.bel | exact hHeld82.bel | exact hHeld83.bel | exact hHeld84.bel | exact hHeld85.bel | exact hHeld86.bel | exact hHeld87.bel | exact hHeld88.bel | exact hHeld89.bel | exact hHeld90.bel | exact hHeld91.bel | exact hHeld92.bel | exact hHeld93.bel | exact hHeld94.bel | exact hHeld95.bel | exact hHeld96.bel | exact hHeld97.bel | exact hHeld98.bel | exact hHeld99.bel | exact hHeld100.bel | exact hHeld101.bel | exact hHeld102.bel | exact hHeld103.bel | exact hHeld104.bel | exact hHeld105.bel | exact hHeld106.bel | exact hHeld107.bel | exact hHeld108.bel | exact hHeld109.bel | exact hHeld110.bel | exact hHeld111.bel | exact hHeld112.bel | exact hHeld113.bel | exact hHeld114.bel | exact hHeld115.bel | exact hHeld116.bel | exact hHeld117.bel | exact hHeld118.bel | exact hHeld119.bel | exact hHeld120.bel | exact hHeld121.bel | exact hHeld122.bel | exact hHeld123.bel | exact hHeld124.bel | exact hHeld125.bel | exact hHeld126.bel | exact hHeld127.bel | exact hHeld128.bel | exact hHeld129.bel)) zt).mono ?_); rintro e wd ⟨bq, Aq, nq, cq, br, Ar, nr, cr, rfl, hb, zq, zr⟩))
        refine hK.out _ _ (hHeld83.next hb) (fun hHeld84 => ?_)
        replace hS6 := hS6.next hb
        (try replace hn2 := hn2.below hb)
        clear hK K
        try clear hb
        try simp only [Act.put, List.setIfInBounds_toArray, List.set_cons_zero, List.set_cons_succ]
        refine wpAnyH_ready (rs := [3, 7]) (by kernel_rfl) (by simp) ?_
        refine AllReadyH.cons (o := ⟨some 18, _, _, _, _, _⟩) rfl (fun K hK => ?_) ?_
        go_simp
        (first | ((with_reducible refine (SZ.out _).mono ?_); rintro e ws ⟨A2, n2, c2, rfl, hb, hn2⟩) | ((with_reducible refine (MT.out _ _ hn2).mono ?_); rintro e wt ⟨bt, At, nt, ct, rfl, hb, zt⟩) | ((with_reducible refine (DR.out _ _ _ (HZ.out.below (by first | exact hHeld0.bel | exact hHeld1.bel | exact hHeld2.bel | exact hHeld3.bel | exact hHeld4.bel | exact hHeld5.bel | exact hHeld6.bel | exact hHeld7.bel | exact hHeld8.bel | exact hHeld9.bel | exact hHeld10.bel | exact hHeld11.bel | exact hHeld12.bel | exact hHeld13.bel | exact hHeld14.bel | exact hHeld15.bel | exact hHeld16.bel | exact hHeld17.bel | exact hHeld18.bel | exact hHeld19.bel | exact hHeld20.bel | exact hHeld21.bel | exact hHeld22.bel | exact hHeld23.bel | exact hHeld24.bel | exact hHeld25.bel | exact hHeld26.bel | exact hHeld27.bel | exact hHeld28.bel | exact hHeld29.bel | exact hHeld30.bel | exact hHeld31.bel | exact hHeld32.bel | exact hHeld33.bel | exact hHeld34.bel | exact hHeld35.bel | exact hHeld36.bel | exact hHeld37.bel | exact hHeld38.bel | exact hHeld39.bel | exact hHeld40.bel | exact hHeld41.bel | exact hHeld42.bel | exact hHeld43.bel | exact hHeld44.bel | exact hHeld45.bel | exact hHeld46.bel | exact hHeld47.bel | exact hHeld48.bel | exact hHeld49.bel | exact hHeld50.bel | exact hHeld51.bel | exact hHeld52.bel | exact hHeld53.bel | exact hHeld54.bel | exact hHeld55.bel | exact hHeld56.bel | exact hHeld57.bel | exact hHeld58.bel | exact hHeld59.bel | exact hHeld60.bel | exact hHeld61.bel | exact hHeld62.bel | exact hHeld63.bel | exact hHeld64.bel | exact hHeld65.bel | exact hHeld66.bel | exact hHeld67.bel | exact hHeld68.bel | exact hHeld69.bel | exact hHeld70.bel | exact hHeld71.bel | exact hHeld72.bel | exact hHeld73.bel | exact hHeld74.bel | exact hHeld75.bel | exact hHeld76.bel | exact hHeld77.bel | exact hHeld78.bel | exact hHeld79.bel | exact hHeld80.bel | exact hHeld81.bel | exact hHeld82.bel | exact hHeld83.bel | exact hHeld84.bel | exact hHeld85.bel | exact hHeld86.bel | exact hHeld87.bel | exact hHeld88.bel | exact hHeld89.bel | exact hHeld90.bel | exact hHeld91.bel | exact hHeld92.bel | exact hHeld93.bel | exact hHeld94.bel | exact hHeld95.bel | exact hHeld96.bel | exact hHeld97.bel | exact hHeld98.bel | exact hHeld99.bel | exact hHeld100.bel | exact hHeld101.bel | exact hHeld102.bel | exact hHeld103.bel | exact hHeld104.bel | exact hHeld105.bel | exact hHeld106.bel | exact hHeld107.bel | exact hHeld108.bel | exact hHeld109.bel | exact hHeld110.bel | exact hHeld111.bel | exact hHeld112.bel | exact hHeld113.bel | exact hHeld114.bel | exact hHeld115.bel | exact hHeld116.bel | exact hHeld117.bel | exact hHeld118.bel | exact hHeld119.bel | exact hHeld120.bel | exact hHeld121.bel | exact hHeld122.bel | exact hHeld123.bel | exact hHeld124.bel | exact hHeld125.bel | exact hHeld126.bel | exact hHeld127.bel | exact hHeld128.bel | exact hHeld129.bel)) zt).mono ?_); rintro e wd ⟨bq, Aq, nq, cq, br, Ar, nr, cr, rfl, hb, zq, zr⟩))
        refine hK.out _ _ (hHeld84.next hb) (fun hHeld85 => ?_)
        replace hS6 := hS6.next hb
        (try replace zt := zt.below hb)
        clear hK K
        try clear hb
        try simp only [Act.put, List.setIfInBounds_toArray, List.set_cons_zero, List.set_cons_succ]
        refine wpAnyH_take (i := 4) (oi := ⟨some 14, _, _, _, _, _⟩) (v := ?_) rfl (by kernel_rfl) (by kernel_rfl) (by kernel_rfl) (fun _ _ _ h => h) (Or.inl ⟨by rfl, ?_⟩) (by assumption) ?_
        rotate_left
        · intro wq hSw; go_simp; (try with_reducible rfl)
        try simp only [Act.put, List.setIfInBounds_toArray, List.set_cons_zero, List.set_cons_succ]
        refine wpAnyH_take (i := 5) (oi := ⟨some 19, _, _, _, _, _⟩) (v := ?_) rfl (by kernel_rfl) (by kernel_rfl) (by kernel_rfl) (fun _ _ _ h => h) (Or.inl ⟨by rfl, ?_⟩) (by assumption) ?_
        rotate_left
        · intro wq hSw; go_simp; (try with_reducible rfl)
        try simp only [Act.put, List.setIfInBounds_toArray, List.set_cons_zero, List.set_cons_succ]
        refine wpAnyH_take (i := 6) (oi := ⟨some 20, _, _, _, _, _⟩) (v := ?_) rfl (by kernel_rfl) (by kernel_rfl) (by kernel_rfl) (fun _ _ _ h => h) (Or.inl ⟨by rfl, ?_⟩) (by assumption) ?_
        rotate_left
        · intro wq hSw; go_simp; (try with_reducible rfl)
        try simp only [Act.put, List.setIfInBounds_toArray, List.set_cons_zero, List.set_cons_succ]
        refine wpAnyH_ready (rs := [7]) (by kernel_rfl) (by simp) ?_
        refine AllReadyH.cons (o := ⟨some 5, _, _, _, _, _⟩) rfl (fun K hK => ?_) AllReadyH.nil
        have hne6_5 := hS6.2.1.1
        have lo5 := hHeld85.1.size
        obtain ⟨⟨a5_z0, a5_c0, a5_f0⟩, ⟨a5_z1, a5_c1, a5_f1⟩, ⟨a5_z2, a5_c2, a5_f2⟩, ⟨a5_z3, a5_c3, a5_f3⟩, _⟩ := hHeld85.2
        (try simp at lo5); (try simp at hne6_5); (try simp at a5_z0); (try simp at a5_z1); (try simp at a5_z2); (try simp at a5_z3)
        go_simp
        refine hK.out _ _ (by first | exact hHeld85.alloc _ | exact (hHeld85.alloc _).drew) (fun hHeld86 => ?_)
        first | replace hS6 := hS6.alloc2e hHeld86 | replace hS6 := hS6.alloc2 hHeld86
        (try replace zq := zq.alloc2 hHeld86)
        (try replace zr := zr.alloc2 hHeld86)
        first | have hS5 := newK2 hHeld86 | have hS5 := newK2d hHeld86
        clear hK K
        try clear hb
        try simp only [Act.put, List.setIfInBounds_toArray, List.set_cons_zero, List.set_cons_succ]
        generalize hGWA57 : World.alloc wd (.cells #[.bool false, .slice none 0 0] 28) = WA57 at *
        clear hGWA57
        refine wpAnyH_ready (rs := [9]) (by kernel_rfl) (by simp) ?_
        refine AllReadyH.cons (o := ⟨none, _, _, _, _, _⟩) rfl (fun K hK => ?_) AllReadyH.nil
        obtain ⟨⟨s5z0, s5c0, s5f0⟩, ⟨s5z1, s5c1, s5f1⟩, _⟩ := hS5.2
        go_simp
        refine hK.out _ _ (by (repeat (first | (with_reducible exact hHeld86) | (refine Keeps.set ?_ (by simp <;> omega) (by simp <;> omega) _)))) (fun hHeld87 => ?_)
        replace hS6 := hS6.mv2 hHeld87 (by first | omega | (simp <;> omega)) (by simp <;> omega)
        (try replace zq := zq.store2 hHeld87 s5c0 s5c1)
        (try replace zr := zr.store2 hHeld87 s5c0 s5c1)
        replace hS5 := hHeld87.add2 s5z0 s5c0 s5f0 s5c1 s5f1
        clear s5z0 s5c0 s5f0 s5z1 s5c1 s5f1
        clear hK K
        try clear hb
        try simp only [Act.put, List.setIfInBounds_toArray, List.set_cons_zero, List.set_cons_succ]
        generalize hGWA58 : World.setCell (World.setCell WA57 ⟨wd.heap.size, 0, none⟩ (.bool bq)) ⟨wd.heap.size, 1, none⟩ (.slice Aq nq cq) = WA58 at *
        clear hGWA58
        refine wpAnyH_ready (rs := [10]) (by kernel_rfl) (by simp) ?_
        refine AllReadyH.cons (o := ⟨none, _, _, _, _, _⟩) rfl (fun K hK => ?_) AllReadyH.nil
        obtain ⟨⟨s6z0, s6c0, s6f0⟩, ⟨s6z1, s6c1, s6f1⟩, _⟩ := hS6.2
        go_simp
        refine hK.out _ _ (by (repeat (first | (with_reducible exact hHeld87) | (refine Keeps.set ?_ (by simp <;> omega) (by simp <;> omega) _)))) (fun hHeld88 => ?_)
        replace hS5 := hS5.mv2 hHeld88 (by first | omega | (simp <;> omega)) (by simp <;> omega)
        (try replace zq := zq.store2 hHeld88 s6c0 s6c1)
        (try replace zr := zr.store2 hHeld88 s6c0 s6c1)
        replace hS6 := hHeld88.add2 s6z0 s6c0 s6f0 s6c1 s6f1
        clear s6z0 s6c0 s6f0 s6z1 s6c1 s6f1
        clear hK K
        try clear hb
        try simp only [Act.put, List.setIfInBounds_toArray, List.set_cons_zero, List.set_cons_succ]
        generalize hGWA59 : World.setCell (World.setCell WA58 ⟨wr.heap.size, 0, none⟩ (.bool br)) ⟨wr.heap.size, 1, none⟩ (.slice Ar nr cr) = WA59 at *
        clear hGWA59
        refine wpAnyH_done (by kernel_rfl) ?_ _
        have hHeld := hHeld88
        rotate_left 1
        refine AllReadyH.cons (o := ⟨some 5, _, _, _, _, _⟩) rfl (fun K hK => ?_) ?_
        have hne6_5 := hS6.2.1.1
        have lo5 := hHeld84.1.size
        obtain ⟨⟨a5_z0, a5_c0, a5_f0⟩, ⟨a5_z1, a5_c1, a5_f1⟩, ⟨a5_z2, a5_c2, a5_f2⟩, ⟨a5_z3, a5_c3, a5_f3⟩, _⟩ := hHeld84.2
        (try simp at lo5); (try simp at hne6_5); (try simp at a5_z0); (try simp at a5_z1); (try simp at a5_z2); (try simp at a5_z3)
        go_simp
        refine hK.out _ _ (by first | exact hHeld84.alloc _ | exact (hHeld84.alloc _).drew) (fun hHeld89 => ?_)
        first | replace hS6 := hS6.alloc2e hHeld89 | replace hS6 := hS6.alloc2 hHeld89
        (try replace zt := zt.alloc2 hHeld89)
        first | have hS5 := newK2 hHeld89 | have hS5 := newK2d hHeld89
        clear hK K
        try clear hb
        try simp only [Act.put, List.setIfInBounds_toArray, List.set_cons_zero, List.set_cons_succ]
        generalize hGWA60 : World.alloc wt (.cells #[.bool false, .slice none 0 0] 28) = WA60 at *
        clear hGWA60
        refine wpAnyH_ready (rs := [3]) (by kernel_rfl) (by simp) ?_
        refine AllReadyH.cons (o := ⟨some 18, _, _, _, _, _⟩) rfl (fun K hK => ?_) AllReadyH.nil
        go_simp
        (first | ((with_reducible refine (SZ.out _).mono ?_); rintro e ws ⟨A2, n2, c2, rfl, hb, hn2⟩) | ((with_reducible refine (MT.out _ _ hn2).mono ?_); rintro e wt ⟨bt, At, nt, ct, rfl, hb, zt⟩) | ((with_reducible refine (DR.out _ _ _ (HZ.out.below (by first | exact hHeld0.bel | exact hHeld1.bel | exact hHeld2.bel | exact hHeld3.bel | exact hHeld4.bel | exact hHeld5.bel | exact hHeld6.bel | exact hHeld7.bel | exact hHeld8.bel | exact hHeld9.bel | exact hHeld10.bel | exact hHeld11.bel | exact hHeld12.bel | exact hHeld13.bel | exact hHeld14.bel | exact hHeld15.bel | exact hHeld16.bel | exact hHeld17.bel | exact hHeld18.bel | exact hHeld19.bel | exact hHeld20.bel | exact hHeld21.bel | exact hHeld22.bel | exact hHeld23.bel | exact hHeld24.bel | exact hHeld25.bel | exact hHeld26.bel | exact hHeld27.bel | exact hHeld28.bel | exact hHeld29.bel | exact hHeld30.bel | exact hHeld31.bel | exact hHeld32.bel | exact hHeld33.bel | exact hHeld34.bel | exact hHeld35.bel | exact hHeld36.bel | exact hHeld37.bel | exact hHeld38.bel | exact hHeld39.bel | exact hHeld40.bel | exact hHeld41.bel | exact hHeld42.bel | exact hHeld43.bel | exact hHeld44.bel | exact hHeld45.bel | exact hHeld46.bel | exact hHeld47.bel | exact hHeld48.bel | exact hHeld49.bel | exact hHeld50.bel | exact hHeld51.bel | exact hHeld52.bel | exact hHeld53.bel | exact hHeld54.bel | exact hHeld55.bel | exact hHeld56.bel | exact hHeld57.bel | exact hHeld58.bel | exact hHeld59.bel | exact hHeld60.bel | exact hHeld61.bel | exact hHeld62.bel | exact hHeld63.bel | exact hHeld64.bel | exact hHeld65.bel | exact hHeld66.bel | exact hHeld67.bel | exact hHeld68.bel | exact hHeld69.bel | exact hHeld70.bel | exact hHeld71.bel | exact hHeld72.bel | exact hHeld73.bel | exact hHeld74.bel | exact hHeld75.bel | exact hHeld76.bel | exact hHeld77.bel | exact hHeld78.bel | exact hHeld79.bel | exact hHeld80.bel | exact hHeld81.bel | exact hHeld82.bel | exact hHeld83.bel | exact hHeld84.bel | exact hHeld85.bel | exact hHeld86.bel | exact hHeld87.bel | exact hHeld88.bel | exact hHeld89.bel | exact hHeld90.bel | exact hHeld91.bel | exact hHeld92.bel | exact hHeld93.bel | exact hHeld94.bel | exact hHeld95.bel | exact hHeld96.bel | exact hHeld97.bel | exact hHeld98.bel | exact hHeld99.bel | exact hHeld100.bel | exact hHeld101.bel | exact hHeld102.bel | exact hHeld103.bel | exact hHeld104.bel | exact hHeld105.bel | exact hHeld106.bel | exact hHeld107.bel | exact hHeld108.bel | exact hHeld109.bel | exact hHeld110.bel | exact hHeld111.bel | exact hHeld112.bel | exact hHeld113.bel | exact hHeld114.bel | exact hHeld115.bel | exact hHeld116.bel | exact hHeld117.bel | exact hHeld118.bel | exact hHeld119.bel | exact hHeld120.bel | exact hHeld121.bel | exact hHeld122.bel | exact hHeld123.bel | exact hHeld124.bel | exact hHeld125.bel | exact hHeld126.bel | exact hHeld127.bel | exact hHeld128.bel | exact hHeld129.bel)) zt).mono ?_); rintro e wd ⟨bq, Aq, nq, cq, br, Ar, nr, cr, rfl, hb, zq, zr⟩))
        refine hK.out _ _ (hHeld89.next hb) (fun hHeld90 => ?_)
        replace hS6 := hS6.next hb
        replace hS5 := hS5.next hb
        (try replace zt := zt.below hb)
        clear hK K
        try clear hb
        try simp only [Act.put, List.setIfInBounds_toArray, List.set_cons_zero, List.set_cons_succ]
        refine wpAnyH_take (i := 4) (oi := ⟨some 14, _, _, _, _, _⟩) (v := ?_) rfl (by kernel_rfl) (by kernel_rfl) (by kernel_rfl) (fun _ _ _ h => h) (Or.inl ⟨by rfl, ?_⟩) (by assumption) ?_
        rotate_left
        · intro wq hSw; go_simp; (try with_reducible rfl)
        try simp only [Act.put, List.setIfInBounds_toArray, List.set_cons_zero, List.set_cons_succ]
        refine wpAnyH_take (i := 5) (oi := ⟨some 19, _, _, _, _, _⟩) (v := ?_) rfl (by kernel_rfl) (by kernel_rfl) (by kernel_rfl) (fun _ _ _ h => h) (Or.inl ⟨by rfl, ?_⟩) (by assumption) ?_
        rotate_left
        · intro wq hSw; go_simp; (try with_reducible rfl)
        try simp only [Act.put, List.setIfInBounds_toArray, List.set_cons_zero, List.set_cons_succ]
        refine wpAnyH_take (i := 6) (oi := ⟨some 20, _, _, _, _, _⟩) (v := ?_) rfl (by kernel_rfl) (by kernel_rfl) (by kernel_rfl) (fun _ _ _ h => h) (Or.inl ⟨by rfl, ?_⟩) (by assumption) ?_
        rotate_left
        · intro wq hSw; go_simp; (try with_reducible rfl)
        try simp only [Act.put, List.setIfInBounds_toArray, List.set_cons_zero, List.set_cons_succ]
        refine wpAnyH_ready (rs := [9]) (by kernel_rfl) (by simp) ?_
        refine AllReadyH.cons (o := ⟨none, _, _, _, _, _⟩) rfl (fun K hK => ?_) AllReadyH.nil
        obtain ⟨⟨s5z0, s5c0, s5f0⟩, ⟨s5z1, s5c1, s5f1⟩, _⟩ := hS5.2
        go_simp
        refine hK.out _ _ (by (repeat (first | (with_reducible exact hHeld90) | (refine Keeps.set ?_ (by simp <;> omega) (by simp <;> omega) _)))) (fun hHeld91 => ?_)
        replace hS6 := hS6.mv2 hHeld91 (by first | omega | (simp <;> omega)) (by simp <;> omega)
        (try replace zq := zq.store2 hHeld91 s5c0 s5c1)
        (try replace zr := zr.store2 hHeld91 s5c0 s5c1)
        replace hS5 := hHeld91.add2 s5z0 s5c0 s5f0 s5c1 s5f1
        clear s5z0 s5c0 s5f0 s5z1 s5c1 s5f1
        clear hK K
        try clear hb
        try simp only [Act.put, List.setIfInBounds_toArray, List.set_cons_zero, List.set_cons_succ]
        generalize hGWA61 : World.setCell (World.setCell wd ⟨wt.heap.size, 0, none⟩ (.bool bq)) ⟨wt.heap.size, 1, none⟩ (.slice Aq nq cq) = WA61 at *
        clear hGWA61
        refine wpAnyH_ready (rs := [10]) (by kernel_rfl) (by simp) ?_
        refine AllReadyH.cons (o := ⟨none, _, _, _, _, _⟩) rfl (fun K hK => ?_) AllReadyH.nil
        obtain ⟨⟨s6z0, s6c0, s6f0⟩, ⟨s6z1, s6c1, s6f1⟩, _⟩ := hS6.2
        go_simp
        refine hK.out _ _ (by (repeat (first | (with_reducible exact hHeld91) | (refine Keeps.set ?_ (by simp <;> omega) (by simp <;> omega) _)))) (fun hHeld92 => ?_)
        replace hS5 := hS5.mv2 hHeld92 (by first | omega | (simp <;> omega)) (by simp <;> omega)
        (try replace zq := zq.store2 hHeld92 s6c0 s6c1)
        (try replace zr := zr.store2 hHeld92 s6c0 s6c1)
        replace hS6 := hHeld92.add2 s6z0 s6c0 s6f0 s6c1 s6f1
        clear s6z0 s6c0 s6f0 s6z1 s6c1 s6f1
        clear hK K
        try clear hb
        try simp only [Act.put, List.setIfInBounds_toArray, List.set_cons_zero, List.set_cons_succ]
        generalize hGWA62 : World.setCell (World.setCell WA61 ⟨wr.heap.size, 0, none⟩ (.bool br)) ⟨wr.heap.size, 1, none⟩ (.slice Ar nr cr) = WA62 at *
        clear hGWA62
        refine wpAnyH_done (by kernel_rfl) ?_ _
        have hHeld := hHeld92
        rotate_left 1
        exact AllReadyH.nil
        refine AllReadyH.cons (o := ⟨some 5, _, _, _, _, _⟩) rfl (fun K hK => ?_) ?_
        have hne6_5 := hS6.2.1.1
        have lo5 := hHeld83.1.size
        obtain ⟨⟨a5_z0, a5_c0, a5_f0⟩, ⟨a5_z1, a5_c1, a5_f1⟩, ⟨a5_z2, a5_c2, a5_f2⟩, ⟨a5_z3, a5_c3, a5_f3⟩, _⟩ := hHeld83.2
        (try simp at lo5); (try simp at hne6_5); (try simp at a5_z0); (try simp at a5_z1); (try simp at a5_z2); (try simp at a5_z3)
        go_simp
        refine hK.out _ _ (by first | exact hHeld83.alloc _ | exact (hHeld83.alloc _).drew) (fun hHeld93 => ?_)
        first | replace hS6 := hS6.alloc2e hHeld93 | replace hS6 := hS6.alloc2 hHeld93
        (try replace hn2 := hn2.alloc2 hHeld93)
        first | have hS5 := newK2 hHeld93 | have hS5 := newK2d hHeld93
        clear hK K
        try clear hb
        try simp only [Act.put, List.setIfInBounds_toArray, List.set_cons_zero, List.set_cons_succ]
        generalize hGWA63 : World.alloc ws (.cells #[.bool false, .slice none 0 0] 28) = WA63 at *
        clear hGWA63
        refine wpAnyH_ready (rs := [2]) (by kernel_rfl) (by simp) ?_
        refine AllReadyH.cons (o := ⟨some 17, _, _, _, _, _⟩) rfl (fun K hK => ?_) AllReadyH.nil
        go_simp
        (first | ((with_reducible refine (SZ.out _).mono ?_); rintro e ws ⟨A2, n2, c2, rfl, hb, hn2⟩) | ((with_reducible refine (MT.out _ _ hn2).mono ?_); rintro e wt ⟨bt, At, nt, ct, rfl, hb, zt⟩) | ((with_reducible refine (DR.out _ _ _ (HZ.out.below (by first | exact hHeld0.bel | exact hHeld1.bel | exact hHeld2.bel | exact hHeld3.bel | exact hHeld4.bel | exact hHeld5.bel | exact hHeld6.bel | exact hHeld7.bel | exact hHeld8.bel | exact hHeld9.bel | exact hHeld10.bel | exact hHeld11.bel | exact hHeld12.bel | exact hHeld13.bel | exact hHeld14.bel | exact hHeld15.bel | exact hHeld16.bel | exact hHeld17.bel | exact hHeld18.bel | exact hHeld19.bel | exact hHeld20.bel | exact hHeld21.bel | exact hHeld22.bel | exact hHeld23.bel | exact hHeld24.bel | exact hHeld25.bel | exact hHeld26.bel | exact hHeld27.bel | exact hHeld28.bel | exact hHeld29.bel | exact hHeld30.bel | exact hHeld31.bel | exact hHeld32.bel | exact hHeld33.bel | exact hHeld34.bel | exact hHeld35.bel | exact hHeld36.bel | exact hHeld37.bel | exact hHeld38.bel | exact hHeld39.bel | exact hHeld40.bel | exact hHeld41.bel | exact hHeld42.bel | exact hHeld43.bel | exact hHeld44.bel | exact hHeld45.bel | exact hHeld46.bel | exact hHeld47.bel | exact hHeld48.bel | exact hHeld49.bel | exact hHeld50.bel | exact hHeld51.bel | exact hHeld52.bel | exact hHeld53.bel | exact hHeld54.bel | exact hHeld55.bel | exact hHeld56.bel | exact hHeld57.bel | exact hHeld58.bel | exact hHeld59.bel | exact hHeld60.bel | exact hHeld61.bel | exact hHeld62.bel | exact hHeld63.bel | exact hHeld64.bel | exact hHeld65.bel | exact hHeld66.bel | exact hHeld67.bel | exact hHeld68.bel | exact hHeld69.bel | exact hHeld70.bel | exact hHeld71.bel | exact hHeld72.bel | exact hHeld73.bel | exact hHeld74.bel | exact hHeld75.bel | exact hHeld76.bel | exact hHeld77.bel | exact hHeld78.bel | exact hHeld79.bel | exact hHeld80.bel | exact hHeld81.bel | exact hHeld82.bel | exact hHeld83.bel | exact hHeld84.bel | exact hHeld85.bel | exact hHeld86.bel | exact hHeld87.bel | exact hHeld88.bel | exact hHeld89.bel | exact hHeld90.bel | exact hHeld91.bel | exact hHeld92.bel | exact hHeld93.bel | exact hHeld94.bel | exact hHeld95.bel | exact hHeld96.bel | exact hHeld97.bel | exact hHeld98.bel | exact hHeld99.bel | exact hHeld100.bel | exact hHeld101.bel | exact hHeld102.bel | exact hHeld103.bel | exact hHeld104.bel | exact hHeld105.bel | exact hHeld106.bel | exact hHeld107.bel | exact hHeld108.bel | exact hHeld109.bel | exact hHeld110.bel | exact hHeld111.bel | exact hHeld112.bel | exact hHeld113.bel | exact hHeld114.bel | exact hHeld115.bel | exact hHeld116.bel | exact hHeld117.bel | exact hHeld118.bel | exact hHeld119.bel | exact hHeld120.bel | exact hHeld121.bel | exact hHeld122.bel | exact hHeld123.bel | exact hHeld124.bel | exact hHeld125.bel | exact hHeld126.bel | exact hHeld127.bel | exact hHeld128.bel | exact hHeld129.bel)) zt).mono ?_); rintro e wd ⟨bq, Aq, nq, cq, br, Ar, nr, cr, rfl, hb, zq, zr⟩))
        refine hK.out _ _ (hHeld93.next hb) (fun hHeld94 => ?_)
        replace hS6 := hS6.next hb
        replace hS5 := hS5.next hb
        (try replace hn2 := hn2.below hb)
        clear hK K
        try clear hb
        try simp only [Act.put, List.setIfInBounds_toArray, List.set_cons_zero, List.set_cons_succ]
        refine wpAnyH_ready (rs := [3]) (by kernel_rfl) (by simp) ?_
        refine AllReadyH.cons (o := ⟨some 18, _, _, _, _, _⟩) rfl (fun K hK => ?_) AllReadyH.nil
        go_simp
        (first | ((with_reducible refine (SZ.out _).mono ?_); rintro e ws ⟨A2, n2, c2, rfl, hb, hn2⟩) | ((with_reducible refine (MT.out _ _ hn2).mono ?_); rintro e wt ⟨bt, At, nt, ct, rfl, hb, zt⟩) | ((with_reducible refine (DR.out _ _ _ (HZ.out.below (by first | exact hHeld0.bel | exact hHeld1.bel | exact hHeld2.bel | exact hHeld3.bel | exact hHeld4.bel | exact hHeld5.bel | exact hHeld6.bel | exact hHeld7.bel | exact hHeld8.bel | exact hHeld9.bel | exact hHeld10.bel | exact hHeld11.bel | exact hHeld12.bel | exact hHeld13.bel | exact hHeld14.bel | exact hHeld15.bel | exact hHeld16.bel | exact hHeld17.bel | exact hHeld18.bel | exact hHeld19.bel | exact hHeld20.bel | exact hHeld21.bel | exact hHeld22.bel | exact hHeld23.bel | exact hHeld24.bel | exact hHeld25.bel | exact hHeld26.bel | exact hHeld27.bel | exact hHeld28.bel | exact hHeld29.bel | exact hHeld30.bel | exact hHeld31.bel | exact hHeld32.bel | exact hHeld33.bel | exact hHeld34.bel | exact hHeld35.bel | exact hHeld36.bel | exact hHeld37.bel | exact hHeld38.bel | exact hHeld39.bel | exact hHeld40.bel | exact hHeld41.bel | exact hHeld42.bel | exact hHeld43.bel | exact hHeld44.bel | exact hHeld45.bel | exact hHeld46.bel | exact hHeld47.bel | exact hHeld48.bel | exact hHeld49.bel | exact hHeld50.bel | exact hHeld51.bel | exact hHeld52.bel | exact hHeld53.bel | exact hHeld54.bel | exact hHeld55.bel | exact hHeld56.bel | exact hHeld57.bel | exact hHeld58.bel | exact hHeld59.bel | exact hHeld60.bel | exact hHeld61.bel | exact hHeld62.bel | exact hHeld63.bel | exact hHeld64.bel | exact hHeld65.bel | exact hHeld66.bel | exact hHeld67.bel | exact hHeld68.bel | exact hHeld69.bel | exact hHeld70.bel | exact hHeld71.bel | exact hHeld72.bel | exact hHeld73.bel | exact hHeld74.bel | exact hHeld75.bel | exact hHeld76.bel | exact hHeld77.bel | exact hHeld78.bel | exact hHeld79.bel | exact hHeld80.bel | exact hHeld81.bel | exact hHeld82.bel | exact hHeld83.bel | exact hHeld84.bel | exact hHeld85.bel | exact hHeld86.bel | exact hHeld87.bel | exact hHeld88.bel | exact hHeld89.bel | exact hHeld90.bel | exact hHeld91.bel | exact hHeld92.bel | exact hHeld93.bel | exact hHeld94.bel | exact hHeld95.bel | exact hHeld96.bel | exact hHeld97.bel | exact hHeld98.bel | exact hHeld99.bel | exact hHeld100.bel | exact hHeld101.bel | exact hHeld102.bel | exact hHeld103.bel | exact hHeld104.bel | exact hHeld105.bel | exact hHeld106.bel | exact hHeld107.bel | exact hHeld108.bel | exact hHeld109.bel | exact hHeld110.bel | exact hHeld111.bel | exact hHeld112.bel | exact hHeld113.bel | exact hHeld114.bel | exact hHeld115.bel | exact hHeld116.bel | exact hHeld117.bel | exact hHeld118.bel | exact hHeld119.bel | exact hHeld120.bel | exact hHeld121.bel | exact hHeld122.bel | exact hHeld123.bel | exact hHeld124.bel | exact hHeld125.bel | exact hHeld126.bel | exact hHeld127.bel | exact hHeld128.bel | exact hHeld129.bel)) zt).mono ?_); rintro e wd ⟨bq, Aq, nq, cq, br, Ar, nr, cr, rfl, hb, zq, zr⟩))
        refine hK.out _ _ (hHeld94.next hb) (fun hHeld95 => ?_)
        replace hS6 := hS6.next hb
        replace hS5 := hS5.next hb
        (try replace zt := zt.below hb)
        clear hK K
        try clear hb
        try simp only [Act.put, List.setIfInBounds_toArray, List.set_cons_zero, List.set_cons_succ]
        refine wpAnyH_take (i := 4) (oi := ⟨some 14, _, _, _, _, _⟩) (v := ?_) rfl (by kernel_rfl) (by kernel_rfl) (by kernel_rfl) (fun _ _ _ h => h) (Or.inl ⟨by rfl, ?_⟩) (by assumption) ?_
        rotate_left
        · intro wq hSw; go_simp; (try with_reducible rfl)
        try simp only [Act.put, List.setIfInBounds_toArray, List.set_cons_zero, List.set_cons_succ]
        refine wpAnyH_take (i := 5) (oi := ⟨some 19, _, _, _, _, _⟩) (v := ?_) rfl (by kernel_rfl) (by kernel_rfl) (by kernel_rfl) (fun _ _ _ h => h) (Or.inl ⟨by rfl, ?_⟩) (by assumption) ?_
        rotate_left
        · intro wq hSw; go_simp; (try with_reducible rfl)
        try simp only [Act.put, List.setIfInBounds_toArray, List.set_cons_zero, List.set_cons_succ]
        refine wpAnyH_take (i := 6) (oi := ⟨some 20, _, _, _, _, _⟩) (v := ?_) rfl (by kernel_rfl) (by kernel_rfl) (by kernel_rfl) (fun _ _ _ h => h) (Or.inl ⟨by rfl, ?_⟩) (by assumption) ?_
        rotate_left
        · intro wq hSw; go_simp; (try with_reducible rfl)
        try simp only [Act.put, List.setIfInBounds_toArray, List.set_cons_zero, List.set_cons_succ]
        refine wpAnyH_ready (rs := [9]) (by kernel_rfl) (by simp) ?_
        refine AllReadyH.cons (o := ⟨none, _, _, _, _, _⟩) rfl (fun K hK => ?_) AllReadyH.nil
        obtain ⟨⟨s5z0, s5c0, s5f0⟩, ⟨s5z1, s5c1, s5f1⟩, _⟩ := hS5.2
        go_simp
        refine hK.out _ _ (by (repeat (first | (with_reducible exact hHeld95) | (refine Keeps.set ?_ (by simp <;> omega) (by simp <;> omega) _)))) (fun hHeld96 => ?_)
        replace hS6 := hS6.mv2 hHeld96 (by first | omega | (simp <;> omega)) (by simp <;> omega)
        (try replace zq := zq.store2 hHeld96 s5c0 s5c1)
        (try replace zr := zr.store2 hHeld96 s5c0 s5c1)
        replace hS5 := hHeld96.add2 s5z0 s5c0 s5f0 s5c1 s5f1
        clear s5z0 s5c0 s5f0 s5z1 s5c1 s5f1
        clear hK K
        try clear hb
        try simp only [Act.put, List.setIfInBounds_toArray, List.set_cons_zero, List.set_cons_succ]
        generalize hGWA64 : World.setCell (World.setCell wd ⟨ws.heap.size, 0, none⟩ (.bool bq)) ⟨ws.heap.size, 1, none⟩ (.slice Aq nq cq) = WA64 at *
        clear hGWA64
        refine wpAnyH_ready (rs := [10]) (by kernel_rfl) (by simp) ?_
        refine AllReadyH.cons (o := ⟨none, _, _, _, _, _⟩) rfl (fun K hK => ?_) AllReadyH.nil
        obtain ⟨⟨s6z0, s6c0, s6f0⟩, ⟨s6z1, s6c1, s6f1⟩, _⟩ := hS6.2
        go_simp
        refine hK.out _ _ (by (repeat (first | (with_reducible exact hHeld96) | (refine Keeps.set ?_ (by simp <;> omega) (by simp <;> omega) _)))) (fun hHeld97 => ?_)
        replace hS5 := hS5.mv2 hHeld97 (by first | omega | (simp <;> omega)) (by simp <;> omega)
        (try replace zq := zq.store2 hHeld97 s6c0 s6c1)
        (try replace zr := zr.store2 hHeld97 s6c0 s6c1)
        replace hS6 := hHeld97.add2 s6z0 s6c0 s6f0 s6c1 s6f1
        clear s6z0 s6c0 s6f0 s6z1 s6c1 s6f1
        clear hK K
        try clear hb
        try simp only [Act.put, List.setIfInBounds_toArray, List.set_cons_zero, List.set_cons_succ]
        generalize hGWA65 : World.setCell (World.setCell WA64 ⟨wr.heap.size, 0, none⟩ (.bool br)) ⟨wr.heap.size, 1, none⟩ (.slice Ar nr cr) = WA65 at *
        clear hGWA65
        refine wpAnyH_done (by kernel_rfl) ?_ _
        have hHeld := hHeld97
        rotate_left 1
        exact AllReadyH.nil
        refine AllReadyH.cons (o := ⟨some 5, _, _, _, _, _⟩) rfl (fun K hK => ?_) ?_
        have hne6_5 := hS6.2.1.1
        have lo5 := hHeld82.1.size
        obtain ⟨⟨a5_z0, a5_c0, a5_f0⟩, ⟨a5_z1, a5_c1, a5_f1⟩, ⟨a5_z2, a5_c2, a5_f2⟩, ⟨a5_z3, a5_c3, a5_f3⟩, _⟩ := hHeld82.2
        (try simp at lo5); (try simp at hne6_5); (try simp at a5_z0); (try simp at a5_z1); (try simp at a5_z2); (try simp at a5_z3)
        go_simp
        refine hK.out _ _ (by first | exact hHeld82.alloc _ | exact (hHeld82.alloc _).drew) (fun hHeld98 => ?_)
        first | replace hS6 := hS6.alloc2e hHeld98 | replace hS6 := hS6.alloc2 hHeld98
        first | have hS5 := newK2 hHeld98 | have hS5 := newK2d hHeld98
        clear hK K
        try clear hb
        try simp only [Act.put, List.setIfInBounds_toArray, List.set_cons_zero, List.set_cons_succ]
        generalize hGWA66 : World.alloc WA56 (.cells #[.bool false, .slice none 0 0] 28) = WA66 at *
        clear hGWA66
        refine wpAnyH_ready (rs := [1]) (by kernel_rfl) (by simp) ?_
        refine AllReadyH.cons (o := ⟨some 16, _, _, _, _, _⟩) rfl (fun K hK => ?_) AllReadyH.nil
        go_simp
        (first | ((with_reducible refine (SZ.out _).mono ?_); rintro e ws ⟨A2, n2, c2, rfl, hb, hn2⟩) | ((with_reducible refine (MT.out _ _ hn2).mono ?_); rintro e wt ⟨bt, At, nt, ct, rfl, hb, zt⟩) | ((with_reducible refine (DR.out _ _ _ (HZ.out.below (by first | exact hHeld0.bel | exact hHeld1.bel | exact hHeld2.bel | exact hHeld3.bel | exact hHeld4.bel | exact hHeld5.bel | exact hHeld6.bel | exact hHeld7.bel | exact hHeld8.bel | exact hHeld9.bel | exact hHeld10.bel | exact hHeld11.bel | exact hHeld12.bel | exact hHeld13.bel | exact hHeld14.bel | exact hHeld15.bel | exact hHeld16.bel | exact hHeld17.bel | exact hHeld18.bel | exact hHeld19.bel | exact hHeld20.bel | exact hHeld21.bel | exact hHeld22.bel | exact hHeld23.bel | exact hHeld24.bel | exact hHeld25.bel | exact hHeld26.bel | exact hHeld27.bel | exact hHeld28.bel | exact hHeld29.bel | exact hHeld30.bel | exact hHeld31.bel | exact hHeld32.bel | exact hHeld33.bel | exact hHeld34.bel | exact hHeld35.bel | exact hHeld36.bel | exact hHeld37.bel | exact hHeld38.bel | exact hHeld39.bel | exact hHeld40.bel | exact hHeld41.bel | exact hHeld42.bel | exact hHeld43.bel | exact hHeld44.bel | exact hHeld45.bel | exact hHeld46.bel | exact hHeld47.bel | exact hHeld48.bel | exact hHeld49.bel | exact hHeld50.bel | exact hHeld51.bel | exact hHeld52.bel | exact hHeld53.bel | exact hHeld54.bel | exact hHeld55.bel | exact hHeld56.bel | exact hHeld57.bel | exact hHeld58.bel | exact hHeld59.bel | exact hHeld60.bel | exact hHeld61.bel | exact hHeld62.bel | exact hHeld63.bel | exact hHeld64.bel | exact hHeld65.bel | exact hHeld66.bel | exact hHeld67.bel | exact hHeld68.bel | exact hHeld69.bel | exact hHeld70.bel | exact hHeld71.bel | exact hHeld72.bel | exact hHeld73.bel | exact hHeld74.bel | exact hHeld75.bel | exact hHeld76.bel | exact hHeld77.bel | exact hHeld78.bel | exact hHeld79.bel | exact hHeld80.bel | exact hHeld81.bel | exact hHeld82.bel | exact hHeld83.bel | exact hHeld84.bel | exact hHeld85.bel | exact hHeld86.bel | exact hHeld87.bel | exact hHeld88.bel | exact hHeld89.bel | exact hHeld90.bel | exact hHeld91.bel | exact hHeld92.bel | exact hHeld93.bel | exact hHeld94.bel | exact hHeld95.bel | exact hHeld96.bel | exact hHeld97.bel | exact hHeld98.bel | exact hHeld99.bel | exact hHeld100.bel | exact hHeld101.bel | exact hHeld102.bel | exact hHeld103.bel | exact hHeld104.bel | exact hHeld105.bel | exact hHeld106.bel | exact hHeld107.bel | exact hHeld108.bel | exact hHeld109.bel | exact hHeld110.bel | exact hHeld111.bel | exact hHeld112.bel | exact hHeld113.bel | exact hHeld114.bel | exact hHeld115.bel | exact hHeld116.bel | exact hHeld117.bel | exact hHeld118.bel | exact hHeld119.bel | exact hHeld120.bel | exact hHeld121.bel | exact hHeld122.bel | exact hHeld123.bel | exact hHeld124.bel | exact hHeld125.bel | exact hHeld126.bel | exact hHeld127.bel | exact hHeld128.bel | exact hHeld129.bel)) zt).mono ?_); rintro e wd ⟨bq, Aq, nq, cq, br, Ar, nr, cr, rfl, hb, zq, zr⟩))
        refine hK.out _ _ (hHeld98.next hb) (fun hHeld99 => ?_)
        replace hS6 := hS6.next hb
        replace hS5 := hS5.next hb
        clear hK K
        try clear hb
        try simp only [Act.put, List.setIfInBounds_toArray, List.set_cons_zero, List.set_cons_succ]
        refine wpAnyH_ready (rs := [2]) (by kernel_rfl) (by simp) ?_
        refine AllReadyH.cons (o := ⟨some 17, _, _, _, _, _⟩) rfl (fun K hK => ?_) AllReadyH.nil
        go_simp
        (first | ((with_reducible refine (SZ.out _).mono ?_); rintro e ws ⟨A2, n2, c2, rfl, hb, hn2⟩) | ((with_reducible refine (MT.out _ _ hn2).mono ?_); rintro e wt ⟨bt, At, nt, ct, rfl, hb, zt⟩) | ((with_reducible refine (DR.out _ _ _ (HZ.out.below (by first | exact hHeld0.bel | exact hHeld1.bel | exact hHeld2.bel | exact hHeld3.bel | exact hHeld4.bel | exact hHeld5.bel | exact hHeld6.bel | exact hHeld7.bel | exact hHeld8.bel | exact hHeld9.bel | exact hHeld10.bel | exact hHeld11.bel | exact hHeld12.bel | exact hHeld13.bel | exact hHeld14.bel | exact hHeld15.bel | exact hHeld16.bel | exact hHeld17.bel | exact hHeld18.bel | exact hHeld19.bel | exact hHeld20.bel | exact hHeld21.bel | exact hHeld22.bel | exact hHeld23.bel | exact hHeld24.bel | exact hHeld25.bel | exact hHeld26.bel | exact hHeld27.bel | exact hHeld28.bel | exact hHeld29.bel | exact hHeld30.bel | exact hHeld31.bel | exact hHeld32.bel | exact hHeld33.bel | exact hHeld34.bel | exact hHeld35.bel | exact hHeld36.bel | exact hHeld37.bel | exact hHeld38.bel | exact hHeld39.bel | exact hHeld40.bel | exact hHeld41.bel | exact hHeld42.bel | exact hHeld43.bel | exact hHeld44.bel | exact hHeld45.bel | exact hHeld46.bel | exact hHeld47.bel | exact hHeld48.bel | exact hHeld49.bel | exact hHeld50.bel | exact hHeld51.bel | exact hHeld52.bel | exact hHeld53.bel | exact hHeld54.bel | exact hHeld55.bel | exact hHeld56.bel | exact hHeld57.bel | exact hHeld58.bel | exact hHeld59.bel | exact hHeld60.bel | exact hHeld61.bel | exact hHeld62.bel | exact hHeld63.bel | exact hHeld64.bel | exact hHeld65.bel | exact hHeld66.bel | exact hHeld67.bel | exact hHeld68.bel | exact hHeld69.bel | exact hHeld70.bel | exact hHeld71.bel | exact hHeld72.bel | exact hHeld73.bel | exact hHeld74.bel | exact hHeld75.bel | exact hHeld76.bel | exact hHeld77.bel | exact hHeld78.bel | exact hHeld79.bel | exact hHeld80.bel | exact hHeld81.bel | exact hHeld82.bel | exact hHeld83.bel | exact hHeld84.bel | exact hHeld85.bel | exact hHeld86.bel | exact hHeld87.bel | exact hHeld88.bel | exact hHeld89.bel | exact hHeld90.bel | exact hHeld91.bel | exact hHeld92.bel | exact hHeld93.bel | exact hHeld94.bel | exact hHeld95.bel | exact hHeld96.bel | exact hHeld97.bel | exact hHeld98.bel | exact hHeld99.bel | exact hHeld100.bel | exact hHeld101.bel | exact hHeld102.bel | exact hHeld103.bel | exact hHeld104.bel | exact hHeld105.bel | exact hHeld106.bel | exact hHeld107.bel | exact hHeld108.bel | exact hHeld109.bel | exact hHeld110.bel | exact hHeld111.bel | exact hHeld112.bel | exact hHeld113.bel | exact hHeld114.bel | exact hHeld115.bel | exact hHeld116.bel | exact hHeld117.bel | exact hHeld118.bel | exact hHeld119.bel | exact hHeld120.bel | exact hHeld121.bel | exact hHeld122.bel | exact hHeld123.bel | exact hHeld124.bel | exact hHeld125.bel | exact hHeld126.bel | exact hHeld127.bel | exact hHeld128.bel | exact hHeld129.bel)) zt).mono ?_); rintro e wd ⟨bq, Aq, nq, cq, br, Ar, nr, cr, rfl, hb, zq, zr⟩))
        refine hK.out _ _ (hHeld99.next hb) (fun hHeld100 => ?_)
        replace hS6 := hS6.next hb
        replace hS5 := hS5.next hb
        (try replace hn2 := hn2.below hb)
        clear hK K
        try clear hb
        try simp only [Act.put, List.setIfInBounds_toArray, List.set_cons_zero, List.set_cons_succ]
        refine wpAnyH_ready (rs := [3]) (by kernel_rfl) (by simp) ?_
        refine AllReadyH.cons (o := ⟨some 18, _, _, _, _, _⟩) rfl (fun K hK => ?_) AllReadyH.nil
        go_simp
        (first | ((with_reducible refine (SZ.out _).mono ?_); rintro e ws ⟨A2, n2, c2, rfl, hb, hn2⟩) | ((with_reducible refine (MT.out _ _ hn2).mono ?_); rintro e wt ⟨bt, At, nt, ct, rfl, hb, zt⟩) | ((with_reducible refine (DR.out _ _ _ (HZ.out.below (by first | exact hHeld0.bel | exact hHeld1.bel | exact hHeld2.bel | exact hHeld3.bel | exact hHeld4.bel | exact hHeld5.bel | exact hHeld6.bel | exact hHeld7.bel | exact hHeld8.bel | exact hHeld9.bel | exact hHeld10.bel | exact hHeld11.bel | exact hHeld12.bel | exact hHeld13.bel | exact hHeld14.bel | exact hHeld15.bel | exact hHeld16.bel | exact hHeld17.bel | exact hHeld18.bel | exact hHeld19.bel | exact hHeld20.bel | exact hHeld21.bel | exact hHeld22.bel | exact hHeld23.bel | exact hHeld24.bel | exact hHeld25.bel | exact hHeld26.bel | exact hHeld27.bel | exact hHeld28.bel | exact hHeld29.bel | exact hHeld30.bel | exact hHeld31.bel | exact hHeld32.bel | exact hHeld33.bel | exact hHeld34.bel | exact hHeld35.bel | exact hHeld36.bel | exact hHeld37.bel | exact hHeld38.bel | exact hHeld39.bel | exact hHeld40.bel | exact hHeld41.bel | exact hHeld42.bel | exact hHeld43.bel | exact hHeld44.bel | exact hHeld45.bel | exact hHeld46.bel | exact hHeld47.bel | exact hHeld48.bel | exact hHeld49.bel | exact hHeld50.bel | exact hHeld51.bel | exact hHeld52.bel | exact hHeld53.bel | exact hHeld54.bel | exact hHeld55.bel | exact hHeld56.bel | exact hHeld57.bel | exact hHeld58.bel | exact hHeld59.bel | exact hHeld60.bel | exact hHeld61.bel | exact hHeld62.bel | exact hHeld63.bel | exact hHeld64.bel | exact hHeld65.bel | exact hHeld66.bel | exact hHeld67.bel | exact hHeld68.bel | exact hHeld69.bel | exact hHeld70.bel | exact hHeld71.bel | exact hHeld72.bel | exact hHeld73.bel | exact hHeld74.bel | exact hHeld75.bel | exact hHeld76.bel | exact hHeld77.bel | exact hHeld78.bel | exact hHeld79.bel | exact hHeld80.bel | exact hHeld81.bel | exact hHeld82.bel | exact hHeld83.bel | exact hHeld84.bel | exact hHeld85.bel | exact hHeld86.bel | exact hHeld87.bel | exact hHeld88.bel | exact hHeld89.bel | exact hHeld90.bel | exact hHeld91.bel | exact hHeld92.bel | exact hHeld93.bel | exact hHeld94.bel | exact hHeld95.bel | exact hHeld96.bel | exact hHeld97.bel | exact hHeld98.bel | exact hHeld99.bel | exact hHeld100.bel | exact hHeld101.bel | exact hHeld102.bel | exact hHeld103.bel | exact hHeld104.bel | exact hHeld105.bel | exact hHeld106.bel | exact hHeld107.bel | exact hHeld108.bel | exact hHeld109.bel | exact hHeld110.bel | exact hHeld111.bel | exact hHeld112.bel | exact hHeld113.bel | exact hHeld114.bel | exact hHeld115.bel | exact hHeld116.bel | exact hHeld117.bel | exact hHeld118.bel | exact hHeld119.bel | exact hHeld120.bel | exact hHeld121.bel | exact hHeld122.bel | exact hHeld123.bel | exact hHeld124.bel | exact hHeld125.bel | exact hHeld126.bel | exact hHeld127.bel | exact hHeld128.bel | exact hHeld129.bel)) zt).mono ?_); rintro e wd ⟨bq, Aq, nq, cq, br, Ar, nr, cr, rfl, hb, zq, zr⟩))
        refine hK.out _ _ (hHeld100.next hb) (fun hHeld101 => ?_)
        replace hS6 := hS6.next hb
        replace hS5 := hS5.next hb
        (try replace zt := zt.below hb)
        clear hK K
        try clear hb
        try simp only [Act.put, List.setIfInBounds_toArray, List.set_cons_zero, List.set_cons_succ]
        refine wpAnyH_take (i := 4) (oi := ⟨some 14, _, _, _, _, _⟩) (v := ?_) rfl (by kernel_rfl) (by kernel_rfl) (by kernel_rfl) (fun _ _ _ h => h) (Or.inl ⟨by rfl, ?_⟩) (by assumption) ?_
        rotate_left
        · intro wq hSw; go_simp; (try with_reducible rfl)
        try simp only [Act.put, List.setIfInBounds_toArray, List.set_cons_zero, List.set_cons_succ]
        refine wpAnyH_take (i := 5) (oi := ⟨some 19, _, _, _, _, _⟩) (v := ?_) rfl (by kernel_rfl) (by kernel_rfl) (by kernel_rfl) (fun _ _ _ h => h) (Or.inl ⟨by rfl, ?_⟩) (by assumption) ?_
        rotate_left
        · intro wq hSw; go_simp; (try with_reducible rfl)
        try simp only [Act.put, List.setIfInBounds_toArray, List.set_cons_zero, List.set_cons_succ]
        refine wpAnyH_take (i := 6) (oi := ⟨some 20, _, _, _, _, _⟩) (v := ?_) rfl (by kernel_rfl) (by kernel_rfl) (by kernel_rfl) (fun _ _ _ h => h) (Or.inl ⟨by rfl, ?_⟩) (by assumption) ?_
        rotate_left
        · intro wq hSw; go_simp; (try with_reducible rfl)
        try simp only [Act.put, List.setIfInBounds_toArray, List.set_cons_zero, List.set_cons_succ]
        refine wpAnyH_ready (rs := [9]) (by kernel_rfl) (by simp) ?_
        refine AllReadyH.cons (o := ⟨none, _, _, _, _, _⟩) rfl (fun K hK => ?_) AllReadyH.nil
        obtain ⟨⟨s5z0, s5c0, s5f0⟩, ⟨s5z1, s5c1, s5f1⟩, _⟩ := hS5.2
        go_simp
        refine hK.out _ _ (by (repeat (first | (with_reducible exact hHeld101) | (refine Keeps.set ?_ (by simp <;> omega) (by simp <;> omega) _)))) (fun hHeld102 => ?_)
        replace hS6 := hS6.mv2 hHeld102 (by first | omega | (simp <;> omega)) (by simp <;> omega)
        (try replace zq := zq.store2 hHeld102 s5c0 s5c1)
        (try replace zr := zr.store2 hHeld102 s5c0 s5c1)
        replace hS5 := hHeld102.add2 s5z0 s5c0 s5f0 s5c1 s5f1
        clear s5z0 s5c0 s5f0 s5z1 s5c1 s5f1
        clear hK K
        try clear hb
        try simp only [Act.put, List.setIfInBounds_toArray, List.set_cons_zero, List.set_cons_succ]
        generalize hGWA67 : World.setCell (World.setCell wd ⟨WA56.heap.size, 0, none⟩ (.bool bq)) ⟨WA56.heap.size, 1, none⟩ (.slice Aq nq cq) = WA67 at *
        clear hGWA67
        refine wpAnyH_ready (rs := [10]) (by kernel_rfl) (by simp) ?_
        refine AllReadyH.cons (o := ⟨none, _, _, _, _, _⟩) rfl (fun K hK => ?_) AllReadyH.nil
        obtain ⟨⟨s6z0, s6c0, s6f0⟩, ⟨s6z1, s6c1, s6f1⟩, _⟩ := hS6.2
        go_simp
        refine hK.out _ _ (by (repeat (first | (with_reducible exact hHeld102) | (refine Keeps.set ?_ (by simp <;> omega) (by simp <;> omega) _)))) (fun hHeld103 => ?_)
        replace hS5 := hS5.mv2 hHeld103 (by first | omega | (simp <;> omega)) (by simp <;> omega)
        (try replace zq := zq.store2 hHeld103 s6c0 s6c1)
        (try replace zr := zr.store2 hHeld103 s6c0 s6c1)
        replace hS6 := hHeld103.add2 s6z0 s6c0 s6f0 s6c1 s6f1
        clear s6z0 s6c0 s6f0 s6z1 s6c1 s6f1
        clear hK K
        try clear hb
        try simp only [Act.put, List.setIfInBounds_toArray, List.set_cons_zero, List.set_cons_succ]
        generalize hGWA68 : World.setCell (World.setCell WA67 ⟨wr.heap.size, 0, none⟩ (.bool br)) ⟨wr.heap.size, 1, none⟩ (.slice Ar nr cr) = WA68 at *
        clear hGWA68
        refine wpAnyH_done (by kernel_rfl) ?_ _
        have hHeld := hHeld103
        rotate_left 1
        exact AllReadyH.nil
        exact AllReadyH.nil
        all_goals
          go_wp2_with fail
          go_meet
          case rel => exact ⟨_, _, _, _, _, _, _, _, _, _, rfl, rfl, Lib.hid zq, Lib.hid zr, by omega, hS5.1, hS5.2.1, hS5.2.2.1, hS6.2.1, hS6.2.2.1, hS5.2.2.2⟩
      case rest =>
        obtain ⟨h, b2, A2, m2, c2, h', b2', A2', m2', c2', rfl, rfl, HQ, HR, hne, hH⟩ := hcut
        clear kz0 kc0 kf0 kz1 kc1 kf1 kz2 kc2 kf2 kz3 kc3 kf3
        obtain ⟨⟨kz0, kc0, kf0⟩, ⟨kz1, kc1, kf1⟩, ⟨kz2, kc2, kf2⟩, ⟨kz3, kc3, kf3⟩, ⟨kz4, kc4, kf4⟩, ⟨kz5, kc5, kf5⟩, ⟨kz6, kc6, kf6⟩, ⟨kz7, kc7, kf7⟩, _⟩ := hH.2
        have hD := (numZ_open HR.out).2.1
        rw [show ((r : Int) % 10).natAbs = r % 10 by omega] at hD
        have eq10 : (r : Int) / 10 = ((r / 10 : Nat) : Int) := by omega
        rw [eq10] at HQ
        clear HR eq10 t1 hHs
        replace hD := Lib.hid hD
        have hd10 : r % 10 < 10 := by omega
        generalize r % 10 = d at *
        go_wp2_with fail
        refine (WR.out _ _ hD.out).mono ?_
        rintro e wv ⟨rfl, hb⟩
        replace HQ := Lib.hid (HQ.out.below hb)
        replace hH := hH.next hb
        clear hb kz0 kc0 kf0 kz1 kc1 kf1 kz2 kc2 kf2 kz3 kc3 kf3 kz4 kc4 kf4 kz5 kc5 kf5 kz6 kc6 kf6 kz7 kc7 kf7
        clear hD
        obtain ⟨⟨kz0, kc0, kf0⟩, ⟨kz1, kc1, kf1⟩, ⟨kz2, kc2, kf2⟩, ⟨kz3, kc3, kf3⟩, ⟨kz4, kc4, kf4⟩, ⟨kz5, kc5, kf5⟩, ⟨kz6, kc6, kf6⟩, ⟨kz7, kc7, kf7⟩, _⟩ := hH.2
        have hcat : ¬ 9223372036854775807 < 1 + L.length := by omega
        go_wp2_with (simp only [conv1])
        go_roundw
        case rel =>
          obtain ⟨s0, s1⟩ := set2 (W := wv) (B := w1.heap.size) (u0 := .bool b2) (u1 := .slice A2 m2 c2) kc6 kc7
          have kE : Keeps w [(w.heap.size, 0, .bool p), (w.heap.size, 1, .slice A0 n0 c0), (w1.heap.size, 0, .bool b2), (w1.heap.size, 1, .slice A2 m2 c2)] ((wv.setCell ⟨w1.heap.size, 0, none⟩ (.bool b2)).setCell ⟨w1.heap.size, 1, none⟩ (.slice A2 m2 c2)) :=
            ⟨((under hHeld.1 hH.1).setCell (by simp; omega) _).setCell (by simp; omega) _, ⟨by simpa using kz4, off_cell (by simp <;> omega) (off_cell (by simp <;> omega) kc4), by simpa using kf4⟩, ⟨by simpa using kz5, off_cell (by simp <;> omega) (off_cell (by simp <;> omega) kc5), by simpa using kf5⟩, ⟨by simpa using kz6, s0, by simpa using kf6⟩, ⟨by simpa using kz7, s1, by simpa using kf7⟩, trivial⟩
          exact ⟨r / 10, b2, A2, m2, c2, UInt8.ofNat (48 + d) :: L, congrArg Value.string (str_append [UInt8.ofNat (48 + d)] L), HT2, hr10, by simp; omega, Lib.hid ((HQ.out.set2 kc6 kc7 _ _).below (below_alloc _ _)), kE.alloc _⟩
        case measure =>
          simp [slen, str_append]
          rw [bytes_size, bytes_size, List.length_cons]
          omega
theorem refText_any (z : Int) (hz : Fits z) (v : Value) (w : World) (h : NumZ w v z) : Calls Tryd.prog 28 #[v] w (Ret w (strV (textL z))) := by
  obtain ⟨A, n, c, rfl, hn⟩ := h.parts
  have hz2 := hz
  unfold Fits at hz2
  refine text_walk (decide (z < 0)) A n c z.natAbs (textL z) (by omega) (Nat.le_trans (sizeL_length 130 _ (by omega)) (by omega)) w hn ?_
  have em : (mag z).toNat = z.natAbs := by unfold mag; split <;> omega
  unfold textL
  rw [em]
  by_cases g : z < 0
  · refine Or.inr ⟨by omega, ?_⟩
    rw [if_pos g, decide_eq_true g]
    rfl
  · by_cases g0 : z = 0
    · subst g0
      refine Or.inl ⟨rfl, by simp, ?_⟩
      rw [if_neg g]
      exact Lib.decDigits_one (by decide)
    · refine Or.inr ⟨by omega, ?_⟩
      rw [if_neg g, decide_eq_false g]
      simp
end Go.Proofs.YtinppckjolkhpaaDoor
