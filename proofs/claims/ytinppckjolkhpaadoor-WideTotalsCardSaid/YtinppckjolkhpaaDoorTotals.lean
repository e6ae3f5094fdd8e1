/-
  The walk of the law WideTotals. Conditions: the words are of 64 bits; the table of powers of ten holds what its initialiser lays.
-/
import Derived.Test.YtinppckjolkhpaaDoorTotA
namespace Go.Proofs.YtinppckjolkhpaaDoor
open Go.RowKit

set_option maxRecDepth 100000 in
set_option maxHeartbeats 16000000 in
theorem totals_law (l : List (Int × Int)) (hok : ∀ x ∈ l, I64 x.1 ∧ U64 x.2) (A : Option Addr) (c : Nat) (hlen : l.length ≤ 9223372036854775807) (hc : l.length ≤ c) (hnil : A = none → c = 0) (w : World) (hR : ReadsW w (.slice A l.length c) l) (htab : Tab w) :
    Calls Tryd.prog 6 #[.slice A l.length c] w (Ret w (.bool true)) := by
  have WK := Lib.hid (fun W (k : Below w.heap.size w W) => wakes_any W (htab.on k))
  have TX := Lib.hid (fun hi lo (h : I64 hi) (j : U64 lo) W (k : Below w.heap.size w W) => text_any hi lo h j W (htab.on k))
  obtain ⟨i0, hi, hz0, hz1, hz2⟩ := info_parts infoWide
  obtain ⟨m, hm⟩ : ∃ m, m = l.take 20 := ⟨_, rfl⟩
  have mok : ∀ x ∈ m, I64 x.1 ∧ U64 x.2 := fun x hx => hok x (by rw [hm] at hx; exact List.mem_of_mem_take hx)
  have ml : m.length ≤ 20 := by rw [hm, List.length_take]; omega
  have FL := Lib.hid (flatW_length m)
  have MOK := Lib.hid mok
  clear hok mok
  go_enter Tryd.func6, Tryd.ntmps6
  go_wp2_with fail
  refine (WK.out _ (by go_grown)).mono ?_
  rintro e w0 ⟨rfl, hb⟩
  have hHeld : Keeps w [] _ := Keeps.next (by refine ⟨by go_grown, ?_⟩; simp [Cells, go_sem]) hb
  clear hb
  have HR := Lib.hid (hR.below hHeld.1)
  clear hR htab
  go_upto_region 3 with (fail)
  go_cut [0] (fun s0 wx => ∃ g cap, s0 = .slice (some ⟨g, 0, none⟩) m.length cap ∧ g < wx.heap.size ∧ Hid (ReadsW wx s0 m) ∧ Keeps w [] wx)
  case first =>
    cases A with
    | none =>
      have c0 := hnil rfl
      have l0 : l.length = 0 := by omega
      have e : l = [] := List.eq_nil_of_length_eq_zero l0
      subst c0 e
      have m0 : m = [] := by rw [hm]; rfl
      subst m0
      clear hm HR hc
      go_wp2_with fail
      go_meet
      case rel => exact ⟨_, _, rfl, by simp, Lib.hid ⟨_, _, rfl, fun i s h => by simp at h⟩, hHeld.next (below_alloc w0 _)⟩
    | some ad =>
        have HN := Lib.hid (show (min (l.length : Int) 20).toNat = m.length by rw [hm, List.length_take]; omega)
        have HT := Lib.hid (show ReadsW w0 (.slice (some ad) m.length c) m by
          have := readsW_take HR.out (min 20 l.length) (by omega)
          rw [hm, List.length_take]
          rw [show l.take 20 = l.take (min 20 l.length) by rw [← List.take_take, List.take_length]]
          exact this)
        clear HR hm
        go_wp2_with (at_builtin; refine wpList_append_own _ rfl _ _ 54 rfl w0.heap.size 24 i0 (.agg #[.int .i64 0, .int .u64 0]) 2 16 Tryd.underlying54 hi hz0 hz1 hz2 rfl (by decide) _ _ _ rfl (World.ownsRow_made w0 #[] 0 (Nat.le_refl _) (Nat.zero_le _) rfl) ad (min (l.length : Int) 20).toNat c (flatW m) rfl ?qc1 ?qc2 ?qc3 ?qc4 ?qc5 ?qc6 ?_)
        case qc1 => exact FL.out.trans (by rw [HN.out])
        case qc2 => exact reads_flatW (HT.out.below (below_alloc w0 _))
        case qc3 => exact flatW_one m
        case qc4 => unfold maxLen; omega
        case qc5 => omega
        case qc6 => simp
        intro v' w1 hown hgrow hiff
        obtain ⟨g, cap, hv, hg⟩ := owns_some hown hiff
        have hown2 : w1.ownsRow w0.heap.size 24 2 v' m.length (flatW m) := by simpa [HN.out] using hown
        have HRd := Lib.hid (readsW_own hown2)
        have hB : Below w0.heap.size w0 w1 := ((Below.refl _ w0).alloc (Nat.le_refl _) _).grown hgrow (by simp) (by intro k hk; simp [Value.ownBlock] at hk; omega)
        go_wp2_with fail
        go_meet
        case rel => exact ⟨g, cap, by rw [hv, HN.out], hg, HRd, hHeld.next hB⟩
  case rest =>
    obtain ⟨g, cap, rfl, hg, RW, hK⟩ := hcut
    obtain ⟨wB, hwB⟩ : ∃ W, W = wc := ⟨_, rfl⟩
    subst hwB
    have RC := Lib.hid (show ∀ i s, m[i]? = some s → wB.cell? ⟨g, 0 + i * 2, none⟩ = some (.int .i64 s.1) ∧ wB.cell? ⟨g, 0 + i * 2 + 1, none⟩ = some (.int .u64 s.2) from by
      intro i s hi
      obtain ⟨A', c', e, hk⟩ := RW.out
      injection e with e1 e2 e3
      obtain ⟨b, off, e4, e5, e6, e7⟩ := hk i s hi
      rw [← e1] at e4
      cases e4
      exact ⟨e6, e7⟩)
    have HG := Lib.hid hg
    have TT := Lib.hid (fun W (k : Below wB.heap.size wB W) => total_walk g 0 cap m MOK.out (by omega) W (Nat.lt_of_lt_of_le HG.out k.size) (fun i h => by
      obtain ⟨a, b⟩ := RC.out i m[i] (List.getElem?_eq_getElem h)
      exact ⟨(k.cell (by exact HG.out)).trans a, (k.cell (by exact HG.out)).trans b⟩))
    have T2 := Lib.hid (fun hi lo (h : I64 hi) (j : U64 lo) W (k : Below wB.heap.size wB W) => TX.out hi lo h j W (under hK.1 k))
    have I0 := Lib.hid (fun W => intZ_any 0 (by omega) (by omega) W)
    have OA := Lib.hid (show ∀ hi lo, I64 hi → U64 lo → ∀ W, Calls Tryd.prog 8 #[wideV hi lo] W (RetZ W (val hi lo)) from fun hi lo h j W => by
      have := refOf_any hi lo h.1 h.2 j.1 j.2 W
      rwa [show hi * 18446744073709551616 + lo = val hi lo by unfold val; rfl] at this)
    have AD := Lib.hid (fun x y (hx : x.natAbs < 2 ^ 200) (hy : y.natAbs < 2 ^ 200) v v' W k k' => addZ_any x y (Nat.le_trans (sizeL_length 200 _ hx) (by omega)) (Nat.le_trans (sizeL_length 200 _ hy) (by omega)) v v' W k k')
    have FI := Lib.hid (show ∀ z : Int, z.natAbs < 2 ^ 200 → ∀ v W, NumZ W v z → Calls Tryd.prog 29 #[v, .int .i64 128] W (Ret W (.bool (decide (Fits z)))) from fun z hz v W h => by
      have := fitsZ_any z 127 128 (by omega) (by omega) (Nat.le_trans (sizeL_length 200 _ hz) (by omega)) v W h
      rw [show decide (-((2 ^ 127 : Nat) : Int) ≤ z ∧ z < ((2 ^ 127 : Nat) : Int)) = decide (Fits z) by rw [decide_eq_decide]; unfold Fits; omega] at this
      exact this)
    have hHeld : Keeps wB [] wB := ⟨Below.refl _ _, trivial⟩
    clear hg RW TX WK hz0 hz1 hz2 hi i0 FL hlen hc hnil hm HR
    go_wp2_with fail
    refine (I0.out _).mono ?_
    rintro e wz ⟨b, A0, n, c0, rfl, hb, zz⟩
    replace hHeld := hHeld.next hb
    clear hb
    have hZ := (hHeld.alloc (.cells #[.bool b, .slice A0 n c0] 28)).app (newK2 (hHeld.alloc (.cells #[.bool b, .slice A0 n c0] 28)))
    have HZ := Lib.hid (zz.below (below_alloc wz (.cells #[.bool b, .slice A0 n c0] 28)))
    have lo3 := hHeld.1.size
    clear zz hHeld
    go_wp2_with fail
    generalize hGc : wz.alloc (.cells #[.bool b, .slice A0 n c0] 28) = wc at hZ HZ ⊢
    clear hGc
    generalize wz.heap.size = g3 at *
    have H0 : Keeps wB [(g3, 0, .bool b), (g3, 1, .slice A0 n c0)] wc := by simpa using hZ
    clear hZ
    go_loopw [4, 21] (fun a4 i wr => ∃ (k : Nat) (over : Bool) (s : Int) (b : Bool) (A0 : Option Addr) (n c0 : Nat), a4 = .bool over ∧ i = .int .i64 k ∧ k ≤ m.length ∧ Hid (SumI m k over s) ∧ Hid (NumZ wr (.agg #[.bool b, .slice A0 n c0]) s) ∧ Keeps wB [(g3, 0, .bool b), (g3, 1, .slice A0 n c0)] wr) (fun _ i _ => m.length - (intOf i).toNat)
    case atStart => exact ⟨0, false, 0, b, A0, n, c0, rfl, rfl, by omega, Lib.hid (Or.inl ⟨rfl, by simp, by unfold Fits; omega⟩), HZ, H0⟩
    case round =>
      clear H0 HZ
      obtain ⟨k, over, s, b, A0, n, c0, rfl, rfl, hkn, HS, HZ, hHeld⟩ := hrel
      obtain ⟨⟨kz0, kc0, kf0⟩, ⟨kz1, kc1, kf1⟩, _⟩ := hHeld.2
      by_cases gk : k < m.length
      · obtain ⟨⟨hi, lo⟩, hx⟩ : ∃ s, m[k]? = some s := ⟨_, List.getElem?_eq_getElem gk⟩
        obtain ⟨e1, e2⟩ := RC.out k _ hx
        have c1 := (hHeld.1.cell (p := ⟨g, 0 + k * 2, none⟩) HG.out).trans e1
        have c2 := (hHeld.1.cell (p := ⟨g, 0 + k * 2 + 1, none⟩) HG.out).trans e2
        simp only [Nat.zero_add] at c1 c2
        obtain ⟨p1, p2⟩ := MOK.out _ (List.mem_of_getElem? hx)
        simp only at p1 p2
        have TA := Lib.hid (T2.out hi lo p1 p2)
        have OX := Lib.hid (OA.out hi lo p1 p2)
        have fx := fits_val p1 p2
        have RT := Lib.hid (fun v W k => refText_any (val hi lo) fx v W k)
        have i1 : (k : Int) < (m.length : Int) := by omega
        have i0 : (0 : Int) ≤ (k : Int) := by omega
        have hZ := (hHeld.alloc (.cells #[.int .i64 hi, .int .u64 lo] 24)).app (newK2 (hHeld.alloc (.cells #[.int .i64 hi, .int .u64 lo] 24)))
        have HZ2 := Lib.hid (HZ.out.below (below_alloc wr (.cells #[.int .i64 hi, .int .u64 lo] 24)))
        have g3lt := kz0
        generalize hT : textL (val hi lo) = T at *
        generalize hx2 : val hi lo = x at *
        have HN : Hid (over = false → SumI m (k + 1) (!decide (Fits (s + x))) (s + x) ∧ s.natAbs < 2 ^ 200 ∧ x.natAbs < 2 ^ 200 ∧ (s + x).natAbs < 2 ^ 200) := Lib.hid (by
          intro ho
          subst ho
          have h := HS.out
          have := sumI_next h hx p1 p2
          simp only [hx2] at this
          refine ⟨this, ?_⟩
          rcases h with ⟨_, _, h⟩ | ⟨h, _⟩
          · unfold Fits at h fx; omega
          · cases h)
        have HM : Hid (over = true → SumI m (k + 1) true s) := Lib.hid (by
          intro ho
          subst ho
          exact sumI_skip HS.out)
        clear hT hx2 HZ hHeld kz0 kc0 kf0 kz1 kc1 kf1 e1 e2 hx p1 p2 fx HS RC T2 OA I0 TT
        go_wp2_with fail
        refine region_keeps (w0 := wB) (L := [(g3, 0, .bool b), (g3, 1, .slice A0 n c0), (wr.heap.size, 0, .int .i64 hi), (wr.heap.size, 1, .int .u64 lo)]) (by kernel_rfl) (by simpa using hZ) (fun hHeld0 => ?_)
        refine wpAnyH_take (i := 0) (oi := ⟨some 25, _, _, _, _, _⟩) (v := ?_) rfl (by kernel_rfl) (by kernel_rfl) (by kernel_rfl) (fun _ _ _ h => h) (Or.inl ⟨by rfl, ?_⟩) (by assumption) ?_
        rotate_left
        · intro wq hSw; obtain ⟨⟨qz0, qc0, qf0⟩, ⟨qz1, qc1, qf1⟩, ⟨qz2, qc2, qf2⟩, ⟨qz3, qc3, qf3⟩, _⟩ := hSw.2; go_simp; (try with_reducible rfl)
        try simp only [Act.put, List.setIfInBounds_toArray, List.set_cons_zero, List.set_cons_succ]
        refine wpAnyH_take (i := 2) (oi := ⟨some 27, _, _, _, _, _⟩) (v := ?_) rfl (by kernel_rfl) (by kernel_rfl) (by kernel_rfl) (fun _ _ _ h => h) (Or.inl ⟨by rfl, ?_⟩) (by assumption) ?_
        rotate_left
        · intro wq hSw; obtain ⟨⟨qz0, qc0, qf0⟩, ⟨qz1, qc1, qf1⟩, ⟨qz2, qc2, qf2⟩, ⟨qz3, qc3, qf3⟩, _⟩ := hSw.2; go_simp; (try with_reducible rfl)
        try simp only [Act.put, List.setIfInBounds_toArray, List.set_cons_zero, List.set_cons_succ]
        refine wpAnyH_ready (rs := [1]) (by kernel_rfl) (by simp) ?_
        refine AllReadyH.cons (o := ⟨some 26, _, _, _, _, _⟩) rfl (fun K hK => ?_) AllReadyH.nil
        go_simp
        ((with_reducible refine (TA.out _ (by first | exact hHeld0.bel | exact hHeld1.bel | exact hHeld2.bel | exact hHeld3.bel | exact hHeld4.bel | exact hHeld5.bel | exact hHeld6.bel | exact hHeld7.bel | exact hHeld8.bel | exact hHeld9.bel | exact hHeld10.bel | exact hHeld11.bel | exact hHeld12.bel | exact hHeld13.bel | exact hHeld14.bel | exact hHeld15.bel | exact hHeld16.bel | exact hHeld17.bel | exact hHeld18.bel | exact hHeld19.bel | exact hHeld20.bel | exact hHeld21.bel | exact hHeld22.bel | exact hHeld23.bel | exact hHeld24.bel | exact hHeld25.bel | exact hHeld26.bel | exact hHeld27.bel | exact hHeld28.bel | exact hHeld29.bel | exact hHeld.bel)).mono ?_); rintro e v1 ⟨rfl, hb⟩; have hz1 := HZ2.out.below (undrew hb))
        refine hK.out _ _ (hHeld0.next hb) (fun hHeld1 => ?_)
        clear hK K
        try clear hb
        try simp only [Act.put, List.setIfInBounds_toArray, List.set_cons_zero, List.set_cons_succ]
        refine wpAnyH_ready (rs := [3]) (by kernel_rfl) (by simp) ?_
        refine AllReadyH.cons (o := ⟨some 28, _, _, _, _, _⟩) rfl (fun K hK => ?_) AllReadyH.nil
        go_simp
        ((with_reducible refine (OX.out _).mono ?_); rintro e v3 ⟨b3, A3, n3, c3, rfl, hb, z3⟩; replace hz1 := hz1.below hb)
        refine hK.out _ _ (hHeld1.next hb) (fun hHeld2 => ?_)
        clear hK K
        try clear hb
        try simp only [Act.put, List.setIfInBounds_toArray, List.set_cons_zero, List.set_cons_succ]
        refine wpAnyH_ready (rs := [4]) (by kernel_rfl) (by simp) ?_
        refine AllReadyH.cons (o := ⟨some 29, _, _, _, _, _⟩) rfl (fun K hK => ?_) AllReadyH.nil
        go_simp
        ((with_reducible refine (RT.out _ _ z3).mono ?_); rintro e v4 ⟨rfl, hb⟩; clear z3; replace hz1 := hz1.below hb)
        refine hK.out _ _ (hHeld2.next hb) (fun hHeld3 => ?_)
        clear hK K
        try clear hb
        try simp only [Act.put, List.setIfInBounds_toArray, List.set_cons_zero, List.set_cons_succ]
        refine wpAnyH_take (i := 5) (oi := ⟨some 30, _, _, _, _, _⟩) (v := ?_) rfl (by kernel_rfl) (by kernel_rfl) (by kernel_rfl) (fun _ _ _ h => h) (Or.inl ⟨by rfl, ?_⟩) (by assumption) ?_
        rotate_left
        · intro wq hSw; go_simp; (try with_reducible rfl)
        try simp only [Act.put, List.setIfInBounds_toArray, List.set_cons_zero, List.set_cons_succ]
        refine wpAnyH_done (by kernel_rfl) ?_ _
        have hHeld := hHeld3
        obtain ⟨⟨kz0, kc0, kf0⟩, ⟨kz1, kc1, kf1⟩, ⟨kz2, kc2, kf2⟩, ⟨kz3, kc3, kf3⟩, _⟩ := hHeld.2
        all_goals
          have HZ4 := Lib.hid hz1
          have hKa : Keeps wB [(wr.heap.size, 0, .int .i64 hi), (wr.heap.size, 1, .int .u64 lo)] v4 := ⟨hHeld.1, hHeld.2.2.2⟩
          have hKb : Keeps wB [(g3, 0, .bool b), (g3, 1, .slice A0 n c0)] v4 := ⟨hHeld.1, hHeld.2.1, hHeld.2.2.1, trivial⟩
          clear hz1 hZ HZ2 TA RT
          cases over
          · obtain ⟨HI, fs, fx2, fsx⟩ := HN.out rfl
            have HI2 := Lib.hid HI
            have AX := Lib.hid (AD.out s x fs fx2)
            have FX := Lib.hid (FI.out (s + x) fsx)
            clear HI HN HM AD FI fs fx2 fsx hHeld
            generalize decide (Fits (s + x)) = d at *
            generalize s + x = y at *
            go_wp2_with fail
            refine region_keepsB (w0 := wB) (L := [(wr.heap.size, 0, .int .i64 hi), (wr.heap.size, 1, .int .u64 lo)]) (M := [(g3, 0, .bool b), (g3, 1, .slice A0 n c0)]) (by kernel_rfl) hKa hKb (fun hHeld0 hT0 => ?_)
            refine wpAnyH_take (i := 1) (oi := ⟨some 34, _, _, _, _, _⟩) (v := ?_) rfl (by kernel_rfl) (by kernel_rfl) (by kernel_rfl) (fun _ _ _ h => h) (Or.inl ⟨by rfl, ?_⟩) (by assumption) ?_
            rotate_left
            · intro wq hSw; obtain ⟨⟨qz0, qc0, qf0⟩, ⟨qz1, qc1, qf1⟩, _⟩ := hSw.2; go_simp; (try with_reducible rfl)
            try simp only [Act.put, List.setIfInBounds_toArray, List.set_cons_zero, List.set_cons_succ]
            refine wpAnyH_ready (rs := [0, 2]) (by kernel_rfl) (by simp) ?_
            refine AllReadyH.cons (o := ⟨some 33, _, _, _, _, _⟩) rfl (fun K hK => ?_) ?_
            obtain ⟨⟨kz0, kc0, kf0⟩, ⟨kz1, kc1, kf1⟩, _⟩ := hHeld0.2
            obtain ⟨⟨t0z0, t0c0, t0f0⟩, ⟨t0z1, t0c1, t0f1⟩, _⟩ := hT0.2
            go_simp
            refine hK.out _ _ (by first | exact hHeld0 | (first | exact hHeld | (refine ⟨by go_grown, ?_⟩; simp [Cells, go_sem]; done))) (fun hHeld1 => ?_)
            clear hK K
            try clear hb
            try simp only [Act.put, List.setIfInBounds_toArray, List.set_cons_zero, List.set_cons_succ]
            refine wpAnyH_ready (rs := [2]) (by kernel_rfl) (by simp) ?_
            refine AllReadyH.cons (o := ⟨some 35, _, _, _, _, _⟩) rfl (fun K hK => ?_) AllReadyH.nil
            go_simp
            ((with_reducible refine (OX.out _).mono ?_); rintro e v2 ⟨b2, A2, n2, c2, rfl, hb, z2⟩; have hz2 := HZ4.out.below (undrew hb))
            refine hK.out _ _ (hHeld1.next hb) (fun hHeld2 => ?_)
            replace hT0 := hT0.next hb
            clear hK K
            try clear hb
            try simp only [Act.put, List.setIfInBounds_toArray, List.set_cons_zero, List.set_cons_succ]
            refine wpAnyH_ready (rs := [3]) (by kernel_rfl) (by simp) ?_
            refine AllReadyH.cons (o := ⟨some 36, _, _, _, _, _⟩) rfl (fun K hK => ?_) AllReadyH.nil
            go_simp
            ((with_reducible refine (AX.out _ _ _ hz2 z2).mono ?_); rintro e v3 ⟨b3, A3, n3, c3, rfl, hb, z3⟩)
            refine hK.out _ _ (hHeld2.next hb) (fun hHeld3 => ?_)
            replace hT0 := hT0.next hb
            clear hK K
            try clear hb
            try simp only [Act.put, List.setIfInBounds_toArray, List.set_cons_zero, List.set_cons_succ]
            refine wpAnyH_ready (rs := [4]) (by kernel_rfl) (by simp) ?_
            refine AllReadyH.cons (o := ⟨none, _, _, _, _, _⟩) rfl (fun K hK => ?_) AllReadyH.nil
            obtain ⟨⟨t0z0, t0c0, t0f0⟩, ⟨t0z1, t0c1, t0f1⟩, _⟩ := hT0.2; (try simp at t0z0); (try simp at t0c0); (try simp at t0f0); (try simp at t0z1); (try simp at t0c1); (try simp at t0f1)
            go_simp
            refine hK.out _ _ (by first | exact hHeld3.alloc _ | (repeat (first | (with_reducible exact hHeld3) | (with_reducible exact (Keeps.undrewR hHeld3)) | (refine Keeps.set ?_ (by simp <;> omega) (by simp <;> omega) _) | (with_reducible refine Keeps.drew ?_)))) (fun hHeld4 => ?_)
            clear hK K
            try clear hb
            try simp only [Act.put, List.setIfInBounds_toArray, List.set_cons_zero, List.set_cons_succ]
            refine wpAnyH_done (by kernel_rfl) ?_ _
            have hHeld := hHeld4
            obtain ⟨⟨kz0, kc0, kf0⟩, ⟨kz1, kc1, kf1⟩, _⟩ := hHeld.2
            rotate_left 1
            refine AllReadyH.cons (o := ⟨some 35, _, _, _, _, _⟩) rfl (fun K hK => ?_) ?_
            go_simp
            ((with_reducible refine (OX.out _).mono ?_); rintro e v2 ⟨b2, A2, n2, c2, rfl, hb, z2⟩; have hz2 := HZ4.out.below (undrew hb))
            refine hK.out _ _ (hHeld0.next hb) (fun hHeld5 => ?_)
            replace hT0 := hT0.next hb
            clear hK K
            try clear hb
            try simp only [Act.put, List.setIfInBounds_toArray, List.set_cons_zero, List.set_cons_succ]
            refine wpAnyH_ready (rs := [0]) (by kernel_rfl) (by simp) ?_
            refine AllReadyH.cons (o := ⟨some 33, _, _, _, _, _⟩) rfl (fun K hK => ?_) AllReadyH.nil
            obtain ⟨⟨kz0, kc0, kf0⟩, ⟨kz1, kc1, kf1⟩, _⟩ := hHeld5.2
            obtain ⟨⟨t0z0, t0c0, t0f0⟩, ⟨t0z1, t0c1, t0f1⟩, _⟩ := hT0.2
            go_simp
            refine hK.out _ _ (by first | exact hHeld5 | (first | exact hHeld | (refine ⟨by go_grown, ?_⟩; simp [Cells, go_sem]; done))) (fun hHeld6 => ?_)
            clear hK K
            try clear hb
            try simp only [Act.put, List.setIfInBounds_toArray, List.set_cons_zero, List.set_cons_succ]
            refine wpAnyH_ready (rs := [3]) (by kernel_rfl) (by simp) ?_
            refine AllReadyH.cons (o := ⟨some 36, _, _, _, _, _⟩) rfl (fun K hK => ?_) AllReadyH.nil
            go_simp
            ((with_reducible refine (AX.out _ _ _ hz2 z2).mono ?_); rintro e v3 ⟨b3, A3, n3, c3, rfl, hb, z3⟩)
            refine hK.out _ _ (hHeld6.next hb) (fun hHeld7 => ?_)
            replace hT0 := hT0.next hb
            clear hK K
            try clear hb
            try simp only [Act.put, List.setIfInBounds_toArray, List.set_cons_zero, List.set_cons_succ]
            refine wpAnyH_ready (rs := [4]) (by kernel_rfl) (by simp) ?_
            refine AllReadyH.cons (o := ⟨none, _, _, _, _, _⟩) rfl (fun K hK => ?_) AllReadyH.nil
            obtain ⟨⟨t0z0, t0c0, t0f0⟩, ⟨t0z1, t0c1, t0f1⟩, _⟩ := hT0.2; (try simp at t0z0); (try simp at t0c0); (try simp at t0f0); (try simp at t0z1); (try simp at t0c1); (try simp at t0f1)
            go_simp
            refine hK.out _ _ (by first | exact hHeld7.alloc _ | (repeat (first | (with_reducible exact hHeld7) | (with_reducible exact (Keeps.undrewR hHeld7)) | (refine Keeps.set ?_ (by simp <;> omega) (by simp <;> omega) _) | (with_reducible refine Keeps.drew ?_)))) (fun hHeld8 => ?_)
            clear hK K
            try clear hb
            try simp only [Act.put, List.setIfInBounds_toArray, List.set_cons_zero, List.set_cons_succ]
            refine wpAnyH_done (by kernel_rfl) ?_ _
            have hHeld := hHeld8
            obtain ⟨⟨kz0, kc0, kf0⟩, ⟨kz1, kc1, kf1⟩, _⟩ := hHeld.2
            rotate_left 1
            exact AllReadyH.nil
            all_goals
              have hN := hHeld.add2 (u0 := .bool b3) (u1 := .slice A3 n3 c3) t0z0 t0c0 t0f0 t0c1 t0f1
              have HZ5 := Lib.hid (z3.set2 t0c0 t0c1 (.bool b3) (.slice A3 n3 c3))
              generalize hG : World.setCell (World.setCell v3 ⟨g3, 0, none⟩ (.bool b3)) ⟨g3, 1, none⟩ (.slice A3 n3 c3) = v5 at *
              clear hG z2 hz2 z3 hHeld hKa hKb AX OX HZ4
              obtain ⟨⟨kz0, kc0, kf0⟩, ⟨kz1, kc1, kf1⟩, _⟩ := hN.2
              go_wp2_with fail
              refine (FX.out _ _ HZ5.out).mono ?_
              rintro e v6 ⟨rfl, hb⟩
              have HZ6 := Lib.hid (HZ5.out.below hb)
              replace hN := hN.next hb
              clear hb
              go_wp2_with fail
              go_roundw
              case rel => exact ⟨k + 1, _, y, b3, A3, n3, c3, rfl, by simp, by omega, HI2, HZ6, hN.1, hN.2.1, hN.2.2.1, trivial⟩
              case measure => simp [intOf]; omega
          · have HI2 := Lib.hid (HM.out rfl)
            clear HN HM AD FI hHeld
            go_wp2_with fail
            go_roundw
            case rel => exact ⟨k + 1, true, s, b, A0, n, c0, rfl, by simp, by omega, HI2, HZ4, hKb⟩
            case measure => simp [intOf]; omega
      · have EK : k = m.length := by omega
        subst EK
        have i1 : ¬ ((m.length : Nat) : Int) < (m.length : Int) := by omega
        obtain ⟨et, sz⟩ := sumI_end HS.out
        have TW := fun W (k : Below wB.heap.size wB W) => TT.out W k
        rw [et] at TW
        have IS := Lib.hid (fun W h => is_any s (Nat.le_trans (sizeL_length 200 _ sz) (by omega)) b A0 n c0 W h)
        generalize rhi s = r1 at *
        generalize rlo s = r2 at *
        generalize rcode s = r3 at *
        replace TW := Lib.hid TW
        clear et sz TT HS RC T2 OA AD FI I0
        go_wp2_with fail
        refine (TW.out _ hHeld.1).mono ?_
        rintro e v1 ⟨rfl, hb⟩
        have HZ2 := Lib.hid ((HZ.out.below hb).below (below_alloc v1 (.cells #[.int .i64 r1, .int .u64 r2] 24)))
        replace hHeld := hHeld.next hb
        have hZ := (hHeld.alloc (.cells #[.int .i64 r1, .int .u64 r2] 24)).app (newK2 (hHeld.alloc (.cells #[.int .i64 r1, .int .u64 r2] 24)))
        clear hb kz0 kc0 kf0 kz1 kc1 kf1
        obtain ⟨⟨kz0, kc0, kf0⟩, ⟨kz1, kc1, kf1⟩, _⟩ := hHeld.2
        go_wp2_with fail
        refine (IS.out _ HZ2.out).mono ?_
        rintro e v2 ⟨rfl, hb⟩
        have HE := under hK.1 (under hZ.1 hb)
        clear hb
        go_wp2_with fail
        go_ret
        exact ⟨rfl, HE⟩
end Go.Proofs.YtinppckjolkhpaaDoor
