/-
  The document's own answers for layer 10: how low the lowest line of a slope begins. Conditions: those written at each fact.
-/
import Derived.Maps.RangeWalk
import Derived.Test.YtmdhgiaaofdjiaaGreatSlH
import Derived.Test.YtmdhgiaaofdjiaaGreatRefS
import Derived.Test.YtmdhgiaaofdjiaaGreatLdA
namespace Go.Proofs.YtmdhgiaaofdjiaaGreat.P10
open Go.RowKit Go.Shelf Go.Proofs.YtmdhgiaaofdjiaaGreat.P8

theorem ne_up2' (n : Nat) : ¬ n = n + 1 + 1 := by omega
theorem ne_dn2' (n : Nat) : ¬ n + 1 + 1 = n := by omega
theorem size_of {z : Int} (h : Fits z) : (sizeL z.natAbs).length ≤ 130 := sizeL_length 130 _ (by unfold Fits at h; omega)
set_option maxRecDepth 100000 in
set_option maxHeartbeats 16000000 in
theorem refLow_any (n d : Int) (l : List Bd) (hne : l ≠ []) (hl : l.length ≤ 1000) (hC : ∀ b ∈ l, CapOk (headT l) n d b) (v : Value) (w : World) (h : ReadsD w v l) :
    Calls Tryz.prog 65 #[v, slV n d] w (RetZ w (lowC (headT l) n d l)) := by
  have hr := h
  obtain ⟨A, c, rfl, hc, hk⟩ := h
  have HK := Lib.hid hk
  have HCC := Lib.hid hC
  have HNE := Lib.hid hne
  clear hr hC hk hne
  go_enter Tryz.func65, Tryz.ntmps65
  have hH0 : Hid (Keeps w [(w.heap.size, 0, .int .i64 n), (w.heap.size, 1, .int .i64 d), (w.heap.size + 1, 0, .bool false), (w.heap.size + 1, 1, .slice none 0 0), (w.heap.size + 1 + 1, 0, .bool false), (w.heap.size + 1 + 1, 1, .slice none 0 0)]
      (((w.alloc (.cells #[.int .i64 n, .int .i64 d] 45)).alloc (.cells #[.bool false, .slice none 0 0] 97)).alloc (.cells #[.bool false, .slice none 0 0] 97))) :=
    Lib.hid ⟨((((Below.refl _ w).alloc (Nat.le_refl _) _).alloc (by simp) _).alloc (by simp; omega) _), by simp [Cells, go_sem]⟩
  go_wp2_with fail
  go_loopw [12] (fun i wr => ∃ (k : Nat) (b : Bool) (A' : Option Addr) (n' c' : Nat), i = .int .i64 k ∧ k ≤ l.length ∧ Hid (k ≠ 0 → NumZ wr (.agg #[.bool b, .slice A' n' c']) (lowC (headT l) n d (l.take k))) ∧ Hid (Keeps w [(w.heap.size, 0, .int .i64 n), (w.heap.size, 1, .int .i64 d), (w.heap.size + 1, 0, .bool false), (w.heap.size + 1, 1, .slice none 0 0), (w.heap.size + 1 + 1, 0, .bool b), (w.heap.size + 1 + 1, 1, .slice A' n' c')] wr)) (fun i _ => l.length - (intOf i).toNat)
  case atStart => exact ⟨0, false, none, 0, 0, rfl, Nat.zero_le _, Lib.hid (fun h => absurd rfl h), hH0⟩
  case round =>
    obtain ⟨k, b, A', n', c', rfl, hkl, hZ, hB⟩ := hrel
    clear hH0
    by_cases gk : k < l.length
    · obtain ⟨⟨t, lo, hi⟩, hx⟩ : ∃ s, l[k]? = some s := ⟨_, List.getElem?_eq_getElem gk⟩
      obtain ⟨b0, hx0⟩ : ∃ s, l[0]? = some s := ⟨l[0]'(by omega), List.getElem?_eq_getElem _⟩
      obtain ⟨bb, off, e', hbw, hp0, _⟩ := HK.out 0 _ hx0
      cases e'
      obtain ⟨_, _, e1, _, hc1, hc2, hc3⟩ := HK.out k _ hx
      cases e1
      simp only [Nat.zero_mul, Nat.add_zero] at hp0
      have ht0 : b0.t = headT l := by
        cases l with
        | nil => simp at hx0
        | cons x q => simp at hx0; subst hx0; rfl
      rw [ht0] at hp0
      have c1 := (hB.out.1.cell (p := ⟨bb, off + k * 3, none⟩) hbw).trans hc1
      have c2 := (hB.out.1.cell (p := ⟨bb, off + k * 3 + 1, none⟩) hbw).trans hc2
      have c3 := (hB.out.1.cell (p := ⟨bb, off + k * 3 + 2, none⟩) hbw).trans hc3
      simp only at c1 c2 c3
      have i1 : (k : Int) < (l.length : Int) := by omega
      have i0 : (0 : Int) ≤ (k : Int) := by omega
      have i4 : (0 : Int) < (l.length : Int) := by omega
      have i5 : 0 < l.length := by omega
      have HCP := HCC.out _ (List.mem_of_getElem? hx)
      obtain ⟨f1, f2, f3, f4, f5, f6, f7⟩ := cap_fits HCP
      simp only at f1 f4 f5 f6
      have eC : capC (headT l) n d ⟨t, lo, hi⟩ = lo * d - n * (t - headT l) := rfl
      have CO := Lib.hid (fun h0 : k = 0 => (lowC_one (t0 := headT l) (n := n) (d := d) (l := l) (b := ⟨t, lo, hi⟩) (by rw [← h0]; exact hx)))
      have CM := Lib.hid (fun h0 : k ≠ 0 => lowC_more (t0 := headT l) (n := n) (d := d) hx h0)
      have FL : Fits (lowC (headT l) n d (l.take k)) := low_fits (fun b hb => HCC.out b (List.mem_of_mem_take hb))
      have sL := size_of FL
      have sC := size_of f7
      have s5 := size_of f5
      have s6 := size_of f6
      rw [eC] at CO CM sC
      have q7 := HCP.t0
      have q8 := HCP.from0
      have q9 := HCP.ok
      simp only [BdOk] at q8 q9
      obtain ⟨t0, ht⟩ : ∃ t0, t0 = headT l := ⟨_, rfl⟩
      rw [← ht] at hp0 f4 f6 sC s6 q7 q8 CO CM sL hZ
      have e1 : IntKind.i64.wrap (t - t0) = t - t0 := by rw [IntKind.wrap_i64]; unfold I64 at f4; omega
      have e2 : wrap64 (t - t0) = t - t0 := by unfold I64 at f4; exact i64_keeps (by omega) (by omega)
      have z1 := Go.Proofs.YtmdhgiaaofdjiaaGreat.i64_len lo f1
      have z2 := Go.Proofs.YtmdhgiaaofdjiaaGreat.i64_len d f2
      have z3 := Go.Proofs.YtmdhgiaaofdjiaaGreat.i64_len n f3
      have z4 := Go.Proofs.YtmdhgiaaofdjiaaGreat.i64_len (t - t0) f4
      have IL := Lib.hid (fun W => intZ_any lo f1.1 f1.2 W)
      have ID := Lib.hid (fun W => intZ_any d f2.1 f2.2 W)
      have IN := Lib.hid (fun W => intZ_any n f3.1 f3.2 W)
      have IT := Lib.hid (fun W => intZ_any (t - t0) f4.1 f4.2 W)
      have ML := Lib.hid (fun u u' W k k' => mulZ_any lo d (by omega) u u' W k k')
      have MN := Lib.hid (fun u u' W k k' => mulZ_any n (t - t0) (by omega) u u' W k k')
      have SU := Lib.hid (fun u u' W k k' => subZ_any (lo * d) (n * (t - t0)) (by omega) (by omega) u u' W k k')
      have LE := Lib.hid (fun u u' W q q' => lessZ_any (lowC t0 n d (l.take k)) (lo * d - n * (t - t0)) (by omega) (by omega) u u' W q q')
      have HP := Lib.hid hp0
      have HT0 := Lib.hid ht
      generalize lowC t0 n d (l.take k) = M at *
      have h9 := hB.out.alloc (.cells #[.int .i64 t, .int .i64 lo, .int .i64 hi] 50)
      have HK9 := Lib.hid ((newK3 h9).app h9)
      have HZ9 := Lib.hid (fun h0 => (hZ.out h0).below (below_alloc wr (.cells #[.int .i64 t, .int .i64 lo, .int .i64 hi] 50)))
      clear hc1 hc2 hc3 hx hx0 hB hp0 ht0 ht HCP f1 f2 f3 f4 f5 f6 f7 eC sC s5 s6 z1 z2 z3 z4 q7 q8 q9 FL sL hZ h9
      go_upto_region 5 with (fail)
      have hHs : Keeps w [(wr.heap.size, 0, .int .i64 t), (wr.heap.size, 1, .int .i64 lo), (wr.heap.size, 2, .int .i64 hi), (w.heap.size, 0, .int .i64 n), (w.heap.size, 1, .int .i64 d), (w.heap.size + 1, 0, .bool false), (w.heap.size + 1, 1, .slice none 0 0), (w.heap.size + 1 + 1, 0, .bool b), (w.heap.size + 1 + 1, 1, .slice A' n' c')] (wr.alloc (.cells #[.int .i64 t, .int .i64 lo, .int .i64 hi] 50)) := HK9.out
      generalize wr.alloc (.cells #[.int .i64 t, .int .i64 lo, .int .i64 hi] 50) = wi at hHs HZ9 ⊢
      generalize wr.heap.size = gb at *
      clear HK9 c1 c2 c3
      go_cut [8] (fun s8 wx => ∃ (g : Nat) (bm : Bool) (Am : Option Addr) (nm cm : Nat), s8 = .pointer (some ⟨g, 0, none⟩) ∧ Hid (NumZ wx (.agg #[.bool bm, .slice Am nm cm]) (lo * d)) ∧ Below wi.heap.size wi wx ∧ Keeps w [(g, 0, .bool bm), (g, 1, .slice Am nm cm), (gb, 0, .int .i64 t), (gb, 1, .int .i64 lo), (gb, 2, .int .i64 hi), (w.heap.size, 0, .int .i64 n), (w.heap.size, 1, .int .i64 d), (w.heap.size + 1, 0, .bool false), (w.heap.size + 1, 1, .slice none 0 0), (w.heap.size + 1 + 1, 0, .bool b), (w.heap.size + 1 + 1, 1, .slice A' n' c')] wx)
      case first =>
        have hBase := Lib.hid hHs.1
        have hSt : Keeps wi [(gb, 0, .int .i64 t), (gb, 1, .int .i64 lo), (gb, 2, .int .i64 hi), (w.heap.size, 0, .int .i64 n), (w.heap.size, 1, .int .i64 d), (w.heap.size + 1, 0, .bool false), (w.heap.size + 1, 1, .slice none 0 0), (w.heap.size + 1 + 1, 0, .bool b), (w.heap.size + 1 + 1, 1, .slice A' n' c')] wi := ⟨Below.refl _ _, hHs.2⟩
        refine region_keeps (w0 := wi) (L := [(gb, 0, .int .i64 t), (gb, 1, .int .i64 lo), (gb, 2, .int .i64 hi), (w.heap.size, 0, .int .i64 n), (w.heap.size, 1, .int .i64 d), (w.heap.size + 1, 0, .bool false), (w.heap.size + 1, 1, .slice none 0 0), (w.heap.size + 1 + 1, 0, .bool b), (w.heap.size + 1 + 1, 1, .slice A' n' c')]) (by kernel_rfl) hSt (fun hHeld0 => ?_)
        refine wpAnyH_take (i := 0) (oi := ⟨some 17, _, _, _, _, _⟩) (v := ?_) rfl (by kernel_rfl) (by kernel_rfl) (by kernel_rfl) (fun _ _ _ h => h) (Or.inl ⟨by rfl, ?_⟩) (by assumption) ?_
        rotate_left
        · intro wq hSw; go_simp; (try with_reducible rfl)
        try go_frame
        refine wpAnyH_take (i := 1) (oi := ⟨some 18, _, _, _, _, _⟩) (v := ?_) rfl (by kernel_rfl) (by kernel_rfl) (by kernel_rfl) (fun _ _ _ h => h) (Or.inl ⟨by rfl, ?_⟩) (by assumption) ?_
        rotate_left
        · intro wq hSw; obtain ⟨⟨qz0, qc0, qf0⟩, ⟨qz1, qc1, qf1⟩, ⟨qz2, qc2, qf2⟩, ⟨qz3, qc3, qf3⟩, ⟨qz4, qc4, qf4⟩, ⟨qz5, qc5, qf5⟩, ⟨qz6, qc6, qf6⟩, ⟨qz7, qc7, qf7⟩, ⟨qz8, qc8, qf8⟩, _⟩ := hSw.2; go_simp; (try with_reducible rfl)
        try go_frame
        refine wpAnyH_take (i := 3) (oi := ⟨some 20, _, _, _, _, _⟩) (v := ?_) rfl (by kernel_rfl) (by kernel_rfl) (by kernel_rfl) (fun _ _ _ h => h) (Or.inl ⟨by rfl, ?_⟩) (by assumption) ?_
        rotate_left
        · intro wq hSw; go_simp; (try with_reducible rfl)
        try go_frame
        refine wpAnyH_take (i := 4) (oi := ⟨some 21, _, _, _, _, _⟩) (v := ?_) rfl (by kernel_rfl) (by kernel_rfl) (by kernel_rfl) (fun _ _ _ h => h) (Or.inl ⟨by rfl, ?_⟩) (by assumption) ?_
        rotate_left
        · intro wq hSw; obtain ⟨⟨qz0, qc0, qf0⟩, ⟨qz1, qc1, qf1⟩, ⟨qz2, qc2, qf2⟩, ⟨qz3, qc3, qf3⟩, ⟨qz4, qc4, qf4⟩, ⟨qz5, qc5, qf5⟩, ⟨qz6, qc6, qf6⟩, ⟨qz7, qc7, qf7⟩, ⟨qz8, qc8, qf8⟩, _⟩ := hSw.2; go_simp; (try with_reducible rfl)
        try go_frame
        refine wpAnyH_ready (rs := [2, 7]) (by kernel_rfl) (by simp) ?_
        refine AllReadyH.cons (o := ⟨some 19, _, _, _, _, _⟩) rfl (fun K hK => ?_) ?_
        go_simp
        (first | ((with_reducible refine (IL.out _).mono ?_); rintro e wl ⟨bl, Al, nl, cl, rfl, hb, zl⟩) | ((with_reducible refine (ID.out _).mono ?_); rintro e wd ⟨bd, Ad, nd, cd, rfl, hb, zd⟩) | ((with_reducible refine (ML.out _ _ _ zl zd).mono ?_); rintro e wm ⟨bm, Am, nm, cm, rfl, hb, zm⟩))
        refine hK.out _ _ (hHeld0.next hb) (fun hHeld1 => ?_)
        clear hK K
        try clear hb
        try go_frame
        refine wpAnyH_ready (rs := [5, 7]) (by kernel_rfl) (by simp) ?_
        refine AllReadyH.cons (o := ⟨some 22, _, _, _, _, _⟩) rfl (fun K hK => ?_) ?_
        go_simp
        (first | ((with_reducible refine (IL.out _).mono ?_); rintro e wl ⟨bl, Al, nl, cl, rfl, hb, zl⟩) | ((with_reducible refine (ID.out _).mono ?_); rintro e wd ⟨bd, Ad, nd, cd, rfl, hb, zd⟩) | ((with_reducible refine (ML.out _ _ _ zl zd).mono ?_); rintro e wm ⟨bm, Am, nm, cm, rfl, hb, zm⟩))
        refine hK.out _ _ (hHeld1.next hb) (fun hHeld2 => ?_)
        (try replace zl := zl.below hb)
        clear hK K
        try clear hb
        try go_frame
        refine wpAnyH_ready (rs := [6, 7]) (by kernel_rfl) (by simp) ?_
        refine AllReadyH.cons (o := ⟨some 23, _, _, _, _, _⟩) rfl (fun K hK => ?_) ?_
        go_simp
        (first | ((with_reducible refine (IL.out _).mono ?_); rintro e wl ⟨bl, Al, nl, cl, rfl, hb, zl⟩) | ((with_reducible refine (ID.out _).mono ?_); rintro e wd ⟨bd, Ad, nd, cd, rfl, hb, zd⟩) | ((with_reducible refine (ML.out _ _ _ zl zd).mono ?_); rintro e wm ⟨bm, Am, nm, cm, rfl, hb, zm⟩))
        refine hK.out _ _ (hHeld2.next hb) (fun hHeld3 => ?_)
        (try replace zl := zl.below hb)
        (try replace zd := zd.below hb)
        clear hK K
        try clear hb
        try go_frame
        refine wpAnyH_ready (rs := [7]) (by kernel_rfl) (by simp) ?_
        refine AllReadyH.cons (o := ⟨some 8, _, _, _, _, _⟩) rfl (fun K hK => ?_) AllReadyH.nil
        have lo8 := hHeld3.1.size
        obtain ⟨⟨a8_z0, a8_c0, a8_f0⟩, ⟨a8_z1, a8_c1, a8_f1⟩, ⟨a8_z2, a8_c2, a8_f2⟩, ⟨a8_z3, a8_c3, a8_f3⟩, ⟨a8_z4, a8_c4, a8_f4⟩, ⟨a8_z5, a8_c5, a8_f5⟩, ⟨a8_z6, a8_c6, a8_f6⟩, ⟨a8_z7, a8_c7, a8_f7⟩, ⟨a8_z8, a8_c8, a8_f8⟩, _⟩ := hHeld3.2
        (try simp at lo8); (try simp at a8_z0); (try simp at a8_z1); (try simp at a8_z2); (try simp at a8_z3); (try simp at a8_z4); (try simp at a8_z5); (try simp at a8_z6); (try simp at a8_z7); (try simp at a8_z8)
        go_simp
        refine hK.out _ _ (by first | exact hHeld3.alloc _ | exact (hHeld3.alloc _).drew) (fun hHeld4 => ?_)
        (try replace zm := zm.alloc2 hHeld4)
        first | have hS8 := newK2 hHeld4 | have hS8 := newK2d hHeld4
        clear hK K
        try clear hb
        try go_frame
        generalize hGWA1 : World.alloc wm (.cells #[.bool false, .slice none 0 0] 97) = WA1 at *
        clear hGWA1
        refine wpAnyH_ready (rs := [8]) (by kernel_rfl) (by simp) ?_
        refine AllReadyH.cons (o := ⟨none, _, _, _, _, _⟩) rfl (fun K hK => ?_) AllReadyH.nil
        obtain ⟨⟨s8z0, s8c0, s8f0⟩, ⟨s8z1, s8c1, s8f1⟩, _⟩ := hS8.2
        go_simp
        refine hK.out _ _ (by (repeat (first | (with_reducible exact hHeld4) | (refine Keeps.set ?_ (by simp <;> omega) (by simp <;> omega) _)))) (fun hHeld5 => ?_)
        (try replace zm := zm.store2 hHeld5 s8c0 s8c1)
        replace hS8 := hHeld5.add2 s8z0 s8c0 s8f0 s8c1 s8f1
        clear s8z0 s8c0 s8f0 s8z1 s8c1 s8f1
        clear hK K
        try clear hb
        try go_frame
        generalize hGWA2 : World.setCell (World.setCell WA1 ⟨wm.heap.size, 0, none⟩ (.bool bm)) ⟨wm.heap.size, 1, none⟩ (.slice Am nm cm) = WA2 at *
        clear hGWA2
        refine wpAnyH_done (by kernel_rfl) ?_ _
        have hHeld := hHeld5
        rotate_left 1
        refine AllReadyH.cons (o := ⟨some 8, _, _, _, _, _⟩) rfl (fun K hK => ?_) ?_
        have lo8 := hHeld2.1.size
        obtain ⟨⟨a8_z0, a8_c0, a8_f0⟩, ⟨a8_z1, a8_c1, a8_f1⟩, ⟨a8_z2, a8_c2, a8_f2⟩, ⟨a8_z3, a8_c3, a8_f3⟩, ⟨a8_z4, a8_c4, a8_f4⟩, ⟨a8_z5, a8_c5, a8_f5⟩, ⟨a8_z6, a8_c6, a8_f6⟩, ⟨a8_z7, a8_c7, a8_f7⟩, ⟨a8_z8, a8_c8, a8_f8⟩, _⟩ := hHeld2.2
        (try simp at lo8); (try simp at a8_z0); (try simp at a8_z1); (try simp at a8_z2); (try simp at a8_z3); (try simp at a8_z4); (try simp at a8_z5); (try simp at a8_z6); (try simp at a8_z7); (try simp at a8_z8)
        go_simp
        refine hK.out _ _ (by first | exact hHeld2.alloc _ | exact (hHeld2.alloc _).drew) (fun hHeld6 => ?_)
        (try replace zl := zl.alloc2 hHeld6)
        (try replace zd := zd.alloc2 hHeld6)
        first | have hS8 := newK2 hHeld6 | have hS8 := newK2d hHeld6
        clear hK K
        try clear hb
        try go_frame
        generalize hGWA3 : World.alloc wd (.cells #[.bool false, .slice none 0 0] 97) = WA3 at *
        clear hGWA3
        refine wpAnyH_ready (rs := [6]) (by kernel_rfl) (by simp) ?_
        refine AllReadyH.cons (o := ⟨some 23, _, _, _, _, _⟩) rfl (fun K hK => ?_) AllReadyH.nil
        go_simp
        (first | ((with_reducible refine (IL.out _).mono ?_); rintro e wl ⟨bl, Al, nl, cl, rfl, hb, zl⟩) | ((with_reducible refine (ID.out _).mono ?_); rintro e wd ⟨bd, Ad, nd, cd, rfl, hb, zd⟩) | ((with_reducible refine (ML.out _ _ _ zl zd).mono ?_); rintro e wm ⟨bm, Am, nm, cm, rfl, hb, zm⟩))
        refine hK.out _ _ (hHeld6.next hb) (fun hHeld7 => ?_)
        replace hS8 := hS8.next hb
        (try replace zl := zl.below hb)
        (try replace zd := zd.below hb)
        clear hK K
        try clear hb
        try go_frame
        refine wpAnyH_ready (rs := [8]) (by kernel_rfl) (by simp) ?_
        refine AllReadyH.cons (o := ⟨none, _, _, _, _, _⟩) rfl (fun K hK => ?_) AllReadyH.nil
        obtain ⟨⟨s8z0, s8c0, s8f0⟩, ⟨s8z1, s8c1, s8f1⟩, _⟩ := hS8.2
        go_simp
        refine hK.out _ _ (by (repeat (first | (with_reducible exact hHeld7) | (refine Keeps.set ?_ (by simp <;> omega) (by simp <;> omega) _)))) (fun hHeld8 => ?_)
        (try replace zm := zm.store2 hHeld8 s8c0 s8c1)
        replace hS8 := hHeld8.add2 s8z0 s8c0 s8f0 s8c1 s8f1
        clear s8z0 s8c0 s8f0 s8z1 s8c1 s8f1
        clear hK K
        try clear hb
        try go_frame
        generalize hGWA4 : World.setCell (World.setCell wm ⟨wd.heap.size, 0, none⟩ (.bool bm)) ⟨wd.heap.size, 1, none⟩ (.slice Am nm cm) = WA4 at *
        clear hGWA4
        refine wpAnyH_done (by kernel_rfl) ?_ _
        have hHeld := hHeld8
        rotate_left 1
        exact AllReadyH.nil
        refine AllReadyH.cons (o := ⟨some 8, _, _, _, _, _⟩) rfl (fun K hK => ?_) ?_
        have lo8 := hHeld1.1.size
        obtain ⟨⟨a8_z0, a8_c0, a8_f0⟩, ⟨a8_z1, a8_c1, a8_f1⟩, ⟨a8_z2, a8_c2, a8_f2⟩, ⟨a8_z3, a8_c3, a8_f3⟩, ⟨a8_z4, a8_c4, a8_f4⟩, ⟨a8_z5, a8_c5, a8_f5⟩, ⟨a8_z6, a8_c6, a8_f6⟩, ⟨a8_z7, a8_c7, a8_f7⟩, ⟨a8_z8, a8_c8, a8_f8⟩, _⟩ := hHeld1.2
        (try simp at lo8); (try simp at a8_z0); (try simp at a8_z1); (try simp at a8_z2); (try simp at a8_z3); (try simp at a8_z4); (try simp at a8_z5); (try simp at a8_z6); (try simp at a8_z7); (try simp at a8_z8)
        go_simp
        refine hK.out _ _ (by first | exact hHeld1.alloc _ | exact (hHeld1.alloc _).drew) (fun hHeld9 => ?_)
        (try replace zl := zl.alloc2 hHeld9)
        first | have hS8 := newK2 hHeld9 | have hS8 := newK2d hHeld9
        clear hK K
        try clear hb
        try go_frame
        generalize hGWA5 : World.alloc wl (.cells #[.bool false, .slice none 0 0] 97) = WA5 at *
        clear hGWA5
        refine wpAnyH_ready (rs := [5]) (by kernel_rfl) (by simp) ?_
        refine AllReadyH.cons (o := ⟨some 22, _, _, _, _, _⟩) rfl (fun K hK => ?_) AllReadyH.nil
        go_simp
        (first | ((with_reducible refine (IL.out _).mono ?_); rintro e wl ⟨bl, Al, nl, cl, rfl, hb, zl⟩) | ((with_reducible refine (ID.out _).mono ?_); rintro e wd ⟨bd, Ad, nd, cd, rfl, hb, zd⟩) | ((with_reducible refine (ML.out _ _ _ zl zd).mono ?_); rintro e wm ⟨bm, Am, nm, cm, rfl, hb, zm⟩))
        refine hK.out _ _ (hHeld9.next hb) (fun hHeld10 => ?_)
        replace hS8 := hS8.next hb
        (try replace zl := zl.below hb)
        clear hK K
        try clear hb
        try go_frame
        refine wpAnyH_ready (rs := [6]) (by kernel_rfl) (by simp) ?_
        refine AllReadyH.cons (o := ⟨some 23, _, _, _, _, _⟩) rfl (fun K hK => ?_) AllReadyH.nil
        go_simp
        (first | ((with_reducible refine (IL.out _).mono ?_); rintro e wl ⟨bl, Al, nl, cl, rfl, hb, zl⟩) | ((with_reducible refine (ID.out _).mono ?_); rintro e wd ⟨bd, Ad, nd, cd, rfl, hb, zd⟩) | ((with_reducible refine (ML.out _ _ _ zl zd).mono ?_); rintro e wm ⟨bm, Am, nm, cm, rfl, hb, zm⟩))
        refine hK.out _ _ (hHeld10.next hb) (fun hHeld11 => ?_)
        replace hS8 := hS8.next hb
        (try replace zl := zl.below hb)
        (try replace zd := zd.below hb)
        clear hK K
        try clear hb
        try go_frame
        refine wpAnyH_ready (rs := [8]) (by kernel_rfl) (by simp) ?_
        refine AllReadyH.cons (o := ⟨none, _, _, _, _, _⟩) rfl (fun K hK => ?_) AllReadyH.nil
        obtain ⟨⟨s8z0, s8c0, s8f0⟩, ⟨s8z1, s8c1, s8f1⟩, _⟩ := hS8.2
        go_simp
        refine hK.out _ _ (by (repeat (first | (with_reducible exact hHeld11) | (refine Keeps.set ?_ (by simp <;> omega) (by simp <;> omega) _)))) (fun hHeld12 => ?_)
        (try replace zm := zm.store2 hHeld12 s8c0 s8c1)
        replace hS8 := hHeld12.add2 s8z0 s8c0 s8f0 s8c1 s8f1
        clear s8z0 s8c0 s8f0 s8z1 s8c1 s8f1
        clear hK K
        try clear hb
        try go_frame
        generalize hGWA6 : World.setCell (World.setCell wm ⟨wl.heap.size, 0, none⟩ (.bool bm)) ⟨wl.heap.size, 1, none⟩ (.slice Am nm cm) = WA6 at *
        clear hGWA6
        refine wpAnyH_done (by kernel_rfl) ?_ _
        have hHeld := hHeld12
        rotate_left 1
        exact AllReadyH.nil
        refine AllReadyH.cons (o := ⟨some 8, _, _, _, _, _⟩) rfl (fun K hK => ?_) ?_
        have lo8 := hHeld0.1.size
        obtain ⟨⟨a8_z0, a8_c0, a8_f0⟩, ⟨a8_z1, a8_c1, a8_f1⟩, ⟨a8_z2, a8_c2, a8_f2⟩, ⟨a8_z3, a8_c3, a8_f3⟩, ⟨a8_z4, a8_c4, a8_f4⟩, ⟨a8_z5, a8_c5, a8_f5⟩, ⟨a8_z6, a8_c6, a8_f6⟩, ⟨a8_z7, a8_c7, a8_f7⟩, ⟨a8_z8, a8_c8, a8_f8⟩, _⟩ := hHeld0.2
        (try simp at lo8); (try simp at a8_z0); (try simp at a8_z1); (try simp at a8_z2); (try simp at a8_z3); (try simp at a8_z4); (try simp at a8_z5); (try simp at a8_z6); (try simp at a8_z7); (try simp at a8_z8)
        go_simp
        refine hK.out _ _ (by first | exact hHeld0.alloc _ | exact (hHeld0.alloc _).drew) (fun hHeld13 => ?_)
        first | have hS8 := newK2 hHeld13 | have hS8 := newK2d hHeld13
        clear hK K
        try clear hb
        try go_frame
        generalize hGWA7 : World.alloc wi (.cells #[.bool false, .slice none 0 0] 97) = WA7 at *
        clear hGWA7
        refine wpAnyH_ready (rs := [2]) (by kernel_rfl) (by simp) ?_
        refine AllReadyH.cons (o := ⟨some 19, _, _, _, _, _⟩) rfl (fun K hK => ?_) AllReadyH.nil
        go_simp
        (first | ((with_reducible refine (IL.out _).mono ?_); rintro e wl ⟨bl, Al, nl, cl, rfl, hb, zl⟩) | ((with_reducible refine (ID.out _).mono ?_); rintro e wd ⟨bd, Ad, nd, cd, rfl, hb, zd⟩) | ((with_reducible refine (ML.out _ _ _ zl zd).mono ?_); rintro e wm ⟨bm, Am, nm, cm, rfl, hb, zm⟩))
        refine hK.out _ _ (hHeld13.next hb) (fun hHeld14 => ?_)
        replace hS8 := hS8.next hb
        clear hK K
        try clear hb
        try go_frame
        refine wpAnyH_ready (rs := [5]) (by kernel_rfl) (by simp) ?_
        refine AllReadyH.cons (o := ⟨some 22, _, _, _, _, _⟩) rfl (fun K hK => ?_) AllReadyH.nil
        go_simp
        (first | ((with_reducible refine (IL.out _).mono ?_); rintro e wl ⟨bl, Al, nl, cl, rfl, hb, zl⟩) | ((with_reducible refine (ID.out _).mono ?_); rintro e wd ⟨bd, Ad, nd, cd, rfl, hb, zd⟩) | ((with_reducible refine (ML.out _ _ _ zl zd).mono ?_); rintro e wm ⟨bm, Am, nm, cm, rfl, hb, zm⟩))
        refine hK.out _ _ (hHeld14.next hb) (fun hHeld15 => ?_)
        replace hS8 := hS8.next hb
        (try replace zl := zl.below hb)
        clear hK K
        try clear hb
        try go_frame
        refine wpAnyH_ready (rs := [6]) (by kernel_rfl) (by simp) ?_
        refine AllReadyH.cons (o := ⟨some 23, _, _, _, _, _⟩) rfl (fun K hK => ?_) AllReadyH.nil
        go_simp
        (first | ((with_reducible refine (IL.out _).mono ?_); rintro e wl ⟨bl, Al, nl, cl, rfl, hb, zl⟩) | ((with_reducible refine (ID.out _).mono ?_); rintro e wd ⟨bd, Ad, nd, cd, rfl, hb, zd⟩) | ((with_reducible refine (ML.out _ _ _ zl zd).mono ?_); rintro e wm ⟨bm, Am, nm, cm, rfl, hb, zm⟩))
        refine hK.out _ _ (hHeld15.next hb) (fun hHeld16 => ?_)
        replace hS8 := hS8.next hb
        (try replace zl := zl.below hb)
        (try replace zd := zd.below hb)
        clear hK K
        try clear hb
        try go_frame
        refine wpAnyH_ready (rs := [8]) (by kernel_rfl) (by simp) ?_
        refine AllReadyH.cons (o := ⟨none, _, _, _, _, _⟩) rfl (fun K hK => ?_) AllReadyH.nil
        obtain ⟨⟨s8z0, s8c0, s8f0⟩, ⟨s8z1, s8c1, s8f1⟩, _⟩ := hS8.2
        go_simp
        refine hK.out _ _ (by (repeat (first | (with_reducible exact hHeld16) | (refine Keeps.set ?_ (by simp <;> omega) (by simp <;> omega) _)))) (fun hHeld17 => ?_)
        (try replace zm := zm.store2 hHeld17 s8c0 s8c1)
        replace hS8 := hHeld17.add2 s8z0 s8c0 s8f0 s8c1 s8f1
        clear s8z0 s8c0 s8f0 s8z1 s8c1 s8f1
        clear hK K
        try clear hb
        try go_frame
        generalize hGWA8 : World.setCell (World.setCell wm ⟨wi.heap.size, 0, none⟩ (.bool bm)) ⟨wi.heap.size, 1, none⟩ (.slice Am nm cm) = WA8 at *
        clear hGWA8
        refine wpAnyH_done (by kernel_rfl) ?_ _
        have hHeld := hHeld17
        rotate_left 1
        exact AllReadyH.nil
        all_goals
          go_wp2_with fail
          go_meet
          case rel =>
            obtain ⟨hbs, a0, a1, q0⟩ := hS8
            exact ⟨_, bm, Am, nm, cm, rfl, Lib.hid zm, hbs, under hBase.out hbs, a0, a1, q0⟩
      case rest =>
        obtain ⟨g8, bm, Am, nm, cm, rfl, HM8, hb8, hHs8⟩ := hcut
        have HZ8 := Lib.hid (fun h0 => (HZ9.out h0).below hb8)
        clear hHs IL ID ML HZ9 hb8
        go_upto_region 6 with (fail)
        go_cut [9] (fun s9 wx => ∃ (g : Nat) (bq : Bool) (Aq : Option Addr) (nq cq : Nat), s9 = .pointer (some ⟨g, 0, none⟩) ∧ Hid (NumZ wx (.agg #[.bool bq, .slice Aq nq cq]) (lo * d - n * (t - t0))) ∧ Below wc.heap.size wc wx ∧ Keeps w [(g, 0, .bool bq), (g, 1, .slice Aq nq cq), (w.heap.size, 0, .int .i64 n), (w.heap.size, 1, .int .i64 d), (w.heap.size + 1, 0, .bool false), (w.heap.size + 1, 1, .slice none 0 0), (w.heap.size + 1 + 1, 0, .bool b), (w.heap.size + 1 + 1, 1, .slice A' n' c')] wx)
        case first =>
          have hBase := Lib.hid hHs8.1
          have hSt : Keeps wc [(g8, 0, .bool bm), (g8, 1, .slice Am nm cm), (gb, 0, .int .i64 t), (gb, 1, .int .i64 lo), (gb, 2, .int .i64 hi), (w.heap.size, 0, .int .i64 n), (w.heap.size, 1, .int .i64 d), (w.heap.size + 1, 0, .bool false), (w.heap.size + 1, 1, .slice none 0 0), (w.heap.size + 1 + 1, 0, .bool b), (w.heap.size + 1 + 1, 1, .slice A' n' c')] wc := ⟨Below.refl _ _, hHs8.2⟩
          refine region_keeps (w0 := wc) (L := [(g8, 0, .bool bm), (g8, 1, .slice Am nm cm), (gb, 0, .int .i64 t), (gb, 1, .int .i64 lo), (gb, 2, .int .i64 hi), (w.heap.size, 0, .int .i64 n), (w.heap.size, 1, .int .i64 d), (w.heap.size + 1, 0, .bool false), (w.heap.size + 1, 1, .slice none 0 0), (w.heap.size + 1 + 1, 0, .bool b), (w.heap.size + 1 + 1, 1, .slice A' n' c')]) (by kernel_rfl) hSt (fun hHeld0 => ?_)
          refine wpAnyH_take (i := 0) (oi := ⟨some 24, _, _, _, _, _⟩) (v := ?_) rfl (by kernel_rfl) (by kernel_rfl) (by kernel_rfl) (fun _ _ _ h => h) (Or.inl ⟨by rfl, ?_⟩) (by assumption) ?_
          rotate_left
          · intro wq hSw; obtain ⟨⟨qz0, qc0, qf0⟩, ⟨qz1, qc1, qf1⟩, ⟨qz2, qc2, qf2⟩, ⟨qz3, qc3, qf3⟩, ⟨qz4, qc4, qf4⟩, ⟨qz5, qc5, qf5⟩, ⟨qz6, qc6, qf6⟩, ⟨qz7, qc7, qf7⟩, ⟨qz8, qc8, qf8⟩, ⟨qz9, qc9, qf9⟩, ⟨qz10, qc10, qf10⟩, _⟩ := hSw.2; have hp4 := (hSw.1.cell (p := ⟨bb, off, none⟩) (Nat.lt_of_lt_of_le hbw hBase.out.size)).trans ((hBase.out.cell (p := ⟨bb, off, none⟩) hbw).trans HP.out); go_simp; (try with_reducible rfl)
          try go_frame
          refine wpAnyH_take (i := 1) (oi := ⟨some 25, _, _, _, _, _⟩) (v := ?_) rfl (by kernel_rfl) (by kernel_rfl) (by kernel_rfl) (fun _ _ _ h => h) (Or.inl ⟨by rfl, ?_⟩) (by assumption) ?_
          rotate_left
          · intro wq hSw; go_simp; (try with_reducible rfl)
          try go_frame
          refine wpAnyH_take (i := 2) (oi := ⟨some 26, _, _, _, _, _⟩) (v := ?_) rfl (by kernel_rfl) (by kernel_rfl) (by kernel_rfl) (fun _ _ _ h => h) (Or.inl ⟨by rfl, ?_⟩) (by assumption) ?_
          rotate_left
          · intro wq hSw; obtain ⟨⟨qz0, qc0, qf0⟩, ⟨qz1, qc1, qf1⟩, ⟨qz2, qc2, qf2⟩, ⟨qz3, qc3, qf3⟩, ⟨qz4, qc4, qf4⟩, ⟨qz5, qc5, qf5⟩, ⟨qz6, qc6, qf6⟩, ⟨qz7, qc7, qf7⟩, ⟨qz8, qc8, qf8⟩, ⟨qz9, qc9, qf9⟩, ⟨qz10, qc10, qf10⟩, _⟩ := hSw.2; have hp4 := (hSw.1.cell (p := ⟨bb, off, none⟩) (Nat.lt_of_lt_of_le hbw hBase.out.size)).trans ((hBase.out.cell (p := ⟨bb, off, none⟩) hbw).trans HP.out); go_simp; (try with_reducible rfl)
          try go_frame
          refine wpAnyH_take (i := 4) (oi := ⟨some 28, _, _, _, _, _⟩) (v := ?_) rfl (by kernel_rfl) (by kernel_rfl) (by kernel_rfl) (fun _ _ _ h => h) (Or.inl ⟨by rfl, ?_⟩) (by assumption) ?_
          rotate_left
          · intro wq hSw; go_simp; (try with_reducible rfl)
          try go_frame
          refine wpAnyH_take (i := 5) (oi := ⟨some 29, _, _, _, _, _⟩) (v := ?_) rfl (by kernel_rfl) (by kernel_rfl) (by kernel_rfl) (fun _ _ _ h => h) (Or.inl ⟨by rfl, ?_⟩) (by assumption) ?_
          rotate_left
          · intro wq hSw; obtain ⟨⟨qz0, qc0, qf0⟩, ⟨qz1, qc1, qf1⟩, ⟨qz2, qc2, qf2⟩, ⟨qz3, qc3, qf3⟩, ⟨qz4, qc4, qf4⟩, ⟨qz5, qc5, qf5⟩, ⟨qz6, qc6, qf6⟩, ⟨qz7, qc7, qf7⟩, ⟨qz8, qc8, qf8⟩, ⟨qz9, qc9, qf9⟩, ⟨qz10, qc10, qf10⟩, _⟩ := hSw.2; have hp4 := (hSw.1.cell (p := ⟨bb, off, none⟩) (Nat.lt_of_lt_of_le hbw hBase.out.size)).trans ((hBase.out.cell (p := ⟨bb, off, none⟩) hbw).trans HP.out); go_simp; (try with_reducible rfl)
          try go_frame
          refine wpAnyH_take (i := 6) (oi := ⟨some 30, _, _, _, _, _⟩) (v := ?_) rfl (by kernel_rfl) (by kernel_rfl) (by kernel_rfl) (fun _ _ _ h => h) (Or.inl ⟨by rfl, ?_⟩) (by assumption) ?_
          rotate_left
          · intro wq hSw; go_simp; (try with_reducible rfl)
          try go_frame
          refine wpAnyH_take (i := 7) (oi := ⟨some 31, _, _, _, _, _⟩) (v := ?_) rfl (by kernel_rfl) (by kernel_rfl) (by kernel_rfl) (fun _ _ _ h => h) (Or.inl ⟨by rfl, ?_⟩) (by assumption) ?_
          rotate_left
          · intro wq hSw; go_simp; (try with_reducible rfl)
          try go_frame
          refine wpAnyH_take (i := 8) (oi := ⟨some 32, _, _, _, _, _⟩) (v := ?_) rfl (by kernel_rfl) (by kernel_rfl) (by kernel_rfl) (fun _ _ _ h => h) (Or.inl ⟨by rfl, ?_⟩) (by assumption) ?_
          rotate_left
          · intro wq hSw; go_simp; (try with_reducible rfl)
          try go_frame
          refine wpAnyH_take (i := 9) (oi := ⟨some 33, _, _, _, _, _⟩) (v := ?_) rfl (by kernel_rfl) (by kernel_rfl) (by kernel_rfl) (fun _ _ _ h => h) (Or.inl ⟨by rfl, ?_⟩) (by assumption) ?_
          rotate_left
          · intro wq hSw; obtain ⟨⟨qz0, qc0, qf0⟩, ⟨qz1, qc1, qf1⟩, ⟨qz2, qc2, qf2⟩, ⟨qz3, qc3, qf3⟩, ⟨qz4, qc4, qf4⟩, ⟨qz5, qc5, qf5⟩, ⟨qz6, qc6, qf6⟩, ⟨qz7, qc7, qf7⟩, ⟨qz8, qc8, qf8⟩, ⟨qz9, qc9, qf9⟩, ⟨qz10, qc10, qf10⟩, _⟩ := hSw.2; have hp4 := (hSw.1.cell (p := ⟨bb, off, none⟩) (Nat.lt_of_lt_of_le hbw hBase.out.size)).trans ((hBase.out.cell (p := ⟨bb, off, none⟩) hbw).trans HP.out); go_simp; (try with_reducible rfl)
          try go_frame
          refine wpAnyH_take (i := 10) (oi := ⟨some 34, _, _, _, _, _⟩) (v := ?_) rfl (by kernel_rfl) (by kernel_rfl) (by kernel_rfl) (fun _ _ _ h => h) (Or.inl ⟨by rfl, ?_⟩) (by assumption) ?_
          rotate_left
          · intro wq hSw; go_simp; (try with_reducible rfl)
          try go_frame
          refine wpAnyH_ready (rs := [3, 14]) (by kernel_rfl) (by simp) ?_
          refine AllReadyH.cons (o := ⟨some 27, _, _, _, _, _⟩) rfl (fun K hK => ?_) ?_
          go_simp
          (first | ((with_reducible refine (IN.out _).mono ?_); rintro e wl ⟨bl, Al, nl, cl, rfl, hb, zl⟩) | ((try rw [e1]); (try rw [e2]); (with_reducible refine (IT.out _).mono ?_); rintro e wd ⟨bd, Ad, nd, cd, rfl, hb, zd⟩) | ((with_reducible refine (MN.out _ _ _ zl zd).mono ?_); rintro e wm ⟨bp, Ap, np, cp, rfl, hb, zp⟩) | ((with_reducible refine (SU.out _ _ _ (HM8.out.below (belK (L := [(g8, 0, .bool bm), (g8, 1, .slice Am nm cm), (gb, 0, .int .i64 t), (gb, 1, .int .i64 lo), (gb, 2, .int .i64 hi), (w.heap.size, 0, .int .i64 n), (w.heap.size, 1, .int .i64 d), (w.heap.size + 1, 0, .bool false), (w.heap.size + 1, 1, .slice none 0 0), (w.heap.size + 1 + 1, 0, .bool b), (w.heap.size + 1 + 1, 1, .slice A' n' c')]) (by assumption))) zp).mono ?_); rintro e wq ⟨bq, Aq, nq, cq, rfl, hb, zq⟩))
          refine hK.out _ _ (hHeld0.next hb) (fun hHeld1 => ?_)
          clear hK K
          try clear hb
          try go_frame
          refine wpAnyH_ready (rs := [11, 14]) (by kernel_rfl) (by simp) ?_
          refine AllReadyH.cons (o := ⟨some 35, _, _, _, _, _⟩) rfl (fun K hK => ?_) ?_
          go_simp
          (first | ((with_reducible refine (IN.out _).mono ?_); rintro e wl ⟨bl, Al, nl, cl, rfl, hb, zl⟩) | ((try rw [e1]); (try rw [e2]); (with_reducible refine (IT.out _).mono ?_); rintro e wd ⟨bd, Ad, nd, cd, rfl, hb, zd⟩) | ((with_reducible refine (MN.out _ _ _ zl zd).mono ?_); rintro e wm ⟨bp, Ap, np, cp, rfl, hb, zp⟩) | ((with_reducible refine (SU.out _ _ _ (HM8.out.below (belK (L := [(g8, 0, .bool bm), (g8, 1, .slice Am nm cm), (gb, 0, .int .i64 t), (gb, 1, .int .i64 lo), (gb, 2, .int .i64 hi), (w.heap.size, 0, .int .i64 n), (w.heap.size, 1, .int .i64 d), (w.heap.size + 1, 0, .bool false), (w.heap.size + 1, 1, .slice none 0 0), (w.heap.size + 1 + 1, 0, .bool b), (w.heap.size + 1 + 1, 1, .slice A' n' c')]) (by assumption))) zp).mono ?_); rintro e wq ⟨bq, Aq, nq, cq, rfl, hb, zq⟩))
          refine hK.out _ _ (hHeld1.next hb) (fun hHeld2 => ?_)
          (try replace zl := zl.below hb)
          clear hK K
          try clear hb
          try go_frame
          refine wpAnyH_ready (rs := [12, 14]) (by kernel_rfl) (by simp) ?_
          refine AllReadyH.cons (o := ⟨some 36, _, _, _, _, _⟩) rfl (fun K hK => ?_) ?_
          go_simp
          (first | ((with_reducible refine (IN.out _).mono ?_); rintro e wl ⟨bl, Al, nl, cl, rfl, hb, zl⟩) | ((try rw [e1]); (try rw [e2]); (with_reducible refine (IT.out _).mono ?_); rintro e wd ⟨bd, Ad, nd, cd, rfl, hb, zd⟩) | ((with_reducible refine (MN.out _ _ _ zl zd).mono ?_); rintro e wm ⟨bp, Ap, np, cp, rfl, hb, zp⟩) | ((with_reducible refine (SU.out _ _ _ (HM8.out.below (belK (L := [(g8, 0, .bool bm), (g8, 1, .slice Am nm cm), (gb, 0, .int .i64 t), (gb, 1, .int .i64 lo), (gb, 2, .int .i64 hi), (w.heap.size, 0, .int .i64 n), (w.heap.size, 1, .int .i64 d), (w.heap.size + 1, 0, .bool false), (w.heap.size + 1, 1, .slice none 0 0), (w.heap.size + 1 + 1, 0, .bool b), (w.heap.size + 1 + 1, 1, .slice A' n' c')]) (by assumption))) zp).mono ?_); rintro e wq ⟨bq, Aq, nq, cq, rfl, hb, zq⟩))
          refine hK.out _ _ (hHeld2.next hb) (fun hHeld3 => ?_)
          (try replace zl := zl.below hb)
          (try replace zd := zd.below hb)
          clear hK K
          try clear hb
          try go_frame
          refine wpAnyH_ready (rs := [13, 14]) (by kernel_rfl) (by simp) ?_
          refine AllReadyH.cons (o := ⟨some 37, _, _, _, _, _⟩) rfl (fun K hK => ?_) ?_
          go_simp
          (first | ((with_reducible refine (IN.out _).mono ?_); rintro e wl ⟨bl, Al, nl, cl, rfl, hb, zl⟩) | ((try rw [e1]); (try rw [e2]); (with_reducible refine (IT.out _).mono ?_); rintro e wd ⟨bd, Ad, nd, cd, rfl, hb, zd⟩) | ((with_reducible refine (MN.out _ _ _ zl zd).mono ?_); rintro e wm ⟨bp, Ap, np, cp, rfl, hb, zp⟩) | ((with_reducible refine (SU.out _ _ _ (HM8.out.below (belK (L := [(g8, 0, .bool bm), (g8, 1, .slice Am nm cm), (gb, 0, .int .i64 t), (gb, 1, .int .i64 lo), (gb, 2, .int .i64 hi), (w.heap.size, 0, .int .i64 n), (w.heap.size, 1, .int .i64 d), (w.heap.size + 1, 0, .bool false), (w.heap.size + 1, 1, .slice none 0 0), (w.heap.size + 1 + 1, 0, .bool b), (w.heap.size + 1 + 1, 1, .slice A' n' c')]) (by assumption))) zp).mono ?_); rintro e wq ⟨bq, Aq, nq, cq, rfl, hb, zq⟩))
          refine hK.out _ _ (hHeld3.next hb) (fun hHeld4 => ?_)
          (try replace zp := zp.below hb)
          clear hK K
          try clear hb
          try go_frame
          refine wpAnyH_ready (rs := [14]) (by kernel_rfl) (by simp) ?_
          refine AllReadyH.cons (o := ⟨some 9, _, _, _, _, _⟩) rfl (fun K hK => ?_) AllReadyH.nil
          have lo9 := hHeld4.1.size
          obtain ⟨⟨a9_z0, a9_c0, a9_f0⟩, ⟨a9_z1, a9_c1, a9_f1⟩, ⟨a9_z2, a9_c2, a9_f2⟩, ⟨a9_z3, a9_c3, a9_f3⟩, ⟨a9_z4, a9_c4, a9_f4⟩, ⟨a9_z5, a9_c5, a9_f5⟩, ⟨a9_z6, a9_c6, a9_f6⟩, ⟨a9_z7, a9_c7, a9_f7⟩, ⟨a9_z8, a9_c8, a9_f8⟩, ⟨a9_z9, a9_c9, a9_f9⟩, ⟨a9_z10, a9_c10, a9_f10⟩, _⟩ := hHeld4.2
          (try simp at lo9); (try simp at a9_z0); (try simp at a9_z1); (try simp at a9_z2); (try simp at a9_z3); (try simp at a9_z4); (try simp at a9_z5); (try simp at a9_z6); (try simp at a9_z7); (try simp at a9_z8); (try simp at a9_z9); (try simp at a9_z10)
          go_simp
          refine hK.out _ _ (by first | exact hHeld4.alloc _ | exact (hHeld4.alloc _).drew) (fun hHeld5 => ?_)
          (try replace zq := zq.alloc2 hHeld5)
          first | have hS9 := newK2 hHeld5 | have hS9 := newK2d hHeld5
          clear hK K
          try clear hb
          try go_frame
          generalize hGWA1 : World.alloc wq (.cells #[.bool false, .slice none 0 0] 97) = WA1 at *
          clear hGWA1
          refine wpAnyH_ready (rs := [15]) (by kernel_rfl) (by simp) ?_
          refine AllReadyH.cons (o := ⟨none, _, _, _, _, _⟩) rfl (fun K hK => ?_) AllReadyH.nil
          obtain ⟨⟨s9z0, s9c0, s9f0⟩, ⟨s9z1, s9c1, s9f1⟩, _⟩ := hS9.2
          go_simp
          refine hK.out _ _ (by (repeat (first | (with_reducible exact hHeld5) | (refine Keeps.set ?_ (by simp <;> omega) (by simp <;> omega) _)))) (fun hHeld6 => ?_)
          (try replace zq := zq.store2 hHeld6 s9c0 s9c1)
          replace hS9 := hHeld6.add2 s9z0 s9c0 s9f0 s9c1 s9f1
          clear s9z0 s9c0 s9f0 s9z1 s9c1 s9f1
          clear hK K
          try clear hb
          try go_frame
          generalize hGWA2 : World.setCell (World.setCell WA1 ⟨wq.heap.size, 0, none⟩ (.bool bq)) ⟨wq.heap.size, 1, none⟩ (.slice Aq nq cq) = WA2 at *
          clear hGWA2
          refine wpAnyH_done (by kernel_rfl) ?_ _
          have hHeld := hHeld6
          rotate_left 1
          refine AllReadyH.cons (o := ⟨some 9, _, _, _, _, _⟩) rfl (fun K hK => ?_) ?_
          have lo9 := hHeld3.1.size
          obtain ⟨⟨a9_z0, a9_c0, a9_f0⟩, ⟨a9_z1, a9_c1, a9_f1⟩, ⟨a9_z2, a9_c2, a9_f2⟩, ⟨a9_z3, a9_c3, a9_f3⟩, ⟨a9_z4, a9_c4, a9_f4⟩, ⟨a9_z5, a9_c5, a9_f5⟩, ⟨a9_z6, a9_c6, a9_f6⟩, ⟨a9_z7, a9_c7, a9_f7⟩, ⟨a9_z8, a9_c8, a9_f8⟩, ⟨a9_z9, a9_c9, a9_f9⟩, ⟨a9_z10, a9_c10, a9_f10⟩, _⟩ := hHeld3.2
          (try simp at lo9); (try simp at a9_z0); (try simp at a9_z1); (try simp at a9_z2); (try simp at a9_z3); (try simp at a9_z4); (try simp at a9_z5); (try simp at a9_z6); (try simp at a9_z7); (try simp at a9_z8); (try simp at a9_z9); (try simp at a9_z10)
          go_simp
          refine hK.out _ _ (by first | exact hHeld3.alloc _ | exact (hHeld3.alloc _).drew) (fun hHeld7 => ?_)
          (try replace zp := zp.alloc2 hHeld7)
          first | have hS9 := newK2 hHeld7 | have hS9 := newK2d hHeld7
          clear hK K
          try clear hb
          try go_frame
          generalize hGWA3 : World.alloc wm (.cells #[.bool false, .slice none 0 0] 97) = WA3 at *
          clear hGWA3
          refine wpAnyH_ready (rs := [13]) (by kernel_rfl) (by simp) ?_
          refine AllReadyH.cons (o := ⟨some 37, _, _, _, _, _⟩) rfl (fun K hK => ?_) AllReadyH.nil
          go_simp
          (first | ((with_reducible refine (IN.out _).mono ?_); rintro e wl ⟨bl, Al, nl, cl, rfl, hb, zl⟩) | ((try rw [e1]); (try rw [e2]); (with_reducible refine (IT.out _).mono ?_); rintro e wd ⟨bd, Ad, nd, cd, rfl, hb, zd⟩) | ((with_reducible refine (MN.out _ _ _ zl zd).mono ?_); rintro e wm ⟨bp, Ap, np, cp, rfl, hb, zp⟩) | ((with_reducible refine (SU.out _ _ _ (HM8.out.below (belK (L := [(g8, 0, .bool bm), (g8, 1, .slice Am nm cm), (gb, 0, .int .i64 t), (gb, 1, .int .i64 lo), (gb, 2, .int .i64 hi), (w.heap.size, 0, .int .i64 n), (w.heap.size, 1, .int .i64 d), (w.heap.size + 1, 0, .bool false), (w.heap.size + 1, 1, .slice none 0 0), (w.heap.size + 1 + 1, 0, .bool b), (w.heap.size + 1 + 1, 1, .slice A' n' c')]) (by assumption))) zp).mono ?_); rintro e wq ⟨bq, Aq, nq, cq, rfl, hb, zq⟩))
          refine hK.out _ _ (hHeld7.next hb) (fun hHeld8 => ?_)
          replace hS9 := hS9.next hb
          (try replace zp := zp.below hb)
          clear hK K
          try clear hb
          try go_frame
          refine wpAnyH_ready (rs := [15]) (by kernel_rfl) (by simp) ?_
          refine AllReadyH.cons (o := ⟨none, _, _, _, _, _⟩) rfl (fun K hK => ?_) AllReadyH.nil
          obtain ⟨⟨s9z0, s9c0, s9f0⟩, ⟨s9z1, s9c1, s9f1⟩, _⟩ := hS9.2
          go_simp
          refine hK.out _ _ (by (repeat (first | (with_reducible exact hHeld8) | (refine Keeps.set ?_ (by simp <;> omega) (by simp <;> omega) _)))) (fun hHeld9 => ?_)
          (try replace zq := zq.store2 hHeld9 s9c0 s9c1)
          replace hS9 := hHeld9.add2 s9z0 s9c0 s9f0 s9c1 s9f1
          clear s9z0 s9c0 s9f0 s9z1 s9c1 s9f1
          clear hK K
          try clear hb
          try go_frame
          generalize hGWA4 : World.setCell (World.setCell wq ⟨wm.heap.size, 0, none⟩ (.bool bq)) ⟨wm.heap.size, 1, none⟩ (.slice Aq nq cq) = WA4 at *
          clear hGWA4
          refine wpAnyH_done (by kernel_rfl) ?_ _
          have hHeld := hHeld9
          rotate_left 1
          exact AllReadyH.nil
          refine AllReadyH.cons (o := ⟨some 9, _, _, _, _, _⟩) rfl (fun K hK => ?_) ?_
          have lo9 := hHeld2.1.size
          obtain ⟨⟨a9_z0, a9_c0, a9_f0⟩, ⟨a9_z1, a9_c1, a9_f1⟩, ⟨a9_z2, a9_c2, a9_f2⟩, ⟨a9_z3, a9_c3, a9_f3⟩, ⟨a9_z4, a9_c4, a9_f4⟩, ⟨a9_z5, a9_c5, a9_f5⟩, ⟨a9_z6, a9_c6, a9_f6⟩, ⟨a9_z7, a9_c7, a9_f7⟩, ⟨a9_z8, a9_c8, a9_f8⟩, ⟨a9_z9, a9_c9, a9_f9⟩, ⟨a9_z10, a9_c10, a9_f10⟩, _⟩ := hHeld2.2
          (try simp at lo9); (try simp at a9_z0); (try simp at a9_z1); (try simp at a9_z2); (try simp at a9_z3); (try simp at a9_z4); (try simp at a9_z5); (try simp at a9_z6); (try simp at a9_z7); (try simp at a9_z8); (try simp at a9_z9); (try simp at a9_z10)
          go_simp
          refine hK.out _ _ (by first | exact hHeld2.alloc _ | exact (hHeld2.alloc _).drew) (fun hHeld10 => ?_)
          (try replace zl := zl.alloc2 hHeld10)
          (try replace zd := zd.alloc2 hHeld10)
          first | have hS9 := newK2 hHeld10 | have hS9 := newK2d hHeld10
          clear hK K
          try clear hb
          try go_frame
          generalize hGWA5 : World.alloc wd (.cells #[.bool false, .slice none 0 0] 97) = WA5 at *
          clear hGWA5
          refine wpAnyH_ready (rs := [12]) (by kernel_rfl) (by simp) ?_
          refine AllReadyH.cons (o := ⟨some 36, _, _, _, _, _⟩) rfl (fun K hK => ?_) AllReadyH.nil
          go_simp
          (first | ((with_reducible refine (IN.out _).mono ?_); rintro e wl ⟨bl, Al, nl, cl, rfl, hb, zl⟩) | ((try rw [e1]); (try rw [e2]); (with_reducible refine (IT.out _).mono ?_); rintro e wd ⟨bd, Ad, nd, cd, rfl, hb, zd⟩) | ((with_reducible refine (MN.out _ _ _ zl zd).mono ?_); rintro e wm ⟨bp, Ap, np, cp, rfl, hb, zp⟩) | ((with_reducible refine (SU.out _ _ _ (HM8.out.below (belK (L := [(g8, 0, .bool bm), (g8, 1, .slice Am nm cm), (gb, 0, .int .i64 t), (gb, 1, .int .i64 lo), (gb, 2, .int .i64 hi), (w.heap.size, 0, .int .i64 n), (w.heap.size, 1, .int .i64 d), (w.heap.size + 1, 0, .bool false), (w.heap.size + 1, 1, .slice none 0 0), (w.heap.size + 1 + 1, 0, .bool b), (w.heap.size + 1 + 1, 1, .slice A' n' c')]) (by assumption))) zp).mono ?_); rintro e wq ⟨bq, Aq, nq, cq, rfl, hb, zq⟩))
          refine hK.out _ _ (hHeld10.next hb) (fun hHeld11 => ?_)
          replace hS9 := hS9.next hb
          (try replace zl := zl.below hb)
          (try replace zd := zd.below hb)
          clear hK K
          try clear hb
          try go_frame
          refine wpAnyH_ready (rs := [13]) (by kernel_rfl) (by simp) ?_
          refine AllReadyH.cons (o := ⟨some 37, _, _, _, _, _⟩) rfl (fun K hK => ?_) AllReadyH.nil
          go_simp
          (first | ((with_reducible refine (IN.out _).mono ?_); rintro e wl ⟨bl, Al, nl, cl, rfl, hb, zl⟩) | ((try rw [e1]); (try rw [e2]); (with_reducible refine (IT.out _).mono ?_); rintro e wd ⟨bd, Ad, nd, cd, rfl, hb, zd⟩) | ((with_reducible refine (MN.out _ _ _ zl zd).mono ?_); rintro e wm ⟨bp, Ap, np, cp, rfl, hb, zp⟩) | ((with_reducible refine (SU.out _ _ _ (HM8.out.below (belK (L := [(g8, 0, .bool bm), (g8, 1, .slice Am nm cm), (gb, 0, .int .i64 t), (gb, 1, .int .i64 lo), (gb, 2, .int .i64 hi), (w.heap.size, 0, .int .i64 n), (w.heap.size, 1, .int .i64 d), (w.heap.size + 1, 0, .bool false), (w.heap.size + 1, 1, .slice none 0 0), (w.heap.size + 1 + 1, 0, .bool b), (w.heap.size + 1 + 1, 1, .slice A' n' c')]) (by assumption))) zp).mono ?_); rintro e wq ⟨bq, Aq, nq, cq, rfl, hb, zq⟩))
          refine hK.out _ _ (hHeld11.next hb) (fun hHeld12 => ?_)
          replace hS9 := hS9.next hb
          (try replace zp := zp.below hb)
          clear hK K
          try clear hb
          try go_frame
          refine wpAnyH_ready (rs := [15]) (by kernel_rfl) (by simp) ?_
          refine AllReadyH.cons (o := ⟨none, _, _, _, _, _⟩) rfl (fun K hK => ?_) AllReadyH.nil
          obtain ⟨⟨s9z0, s9c0, s9f0⟩, ⟨s9z1, s9c1, s9f1⟩, _⟩ := hS9.2
          go_simp
          refine hK.out _ _ (by (repeat (first | (with_reducible exact hHeld12) | (refine Keeps.set ?_ (by simp <;> omega) (by simp <;> omega) _)))) (fun hHeld13 => ?_)
          (try replace zq := zq.store2 hHeld13 s9c0 s9c1)
          replace hS9 := hHeld13.add2 s9z0 s9c0 s9f0 s9c1 s9f1
          clear s9z0 s9c0 s9f0 s9z1 s9c1 s9f1
          clear hK K
          try clear hb
          try go_frame
          generalize hGWA6 : World.setCell (World.setCell wq ⟨wd.heap.size, 0, none⟩ (.bool bq)) ⟨wd.heap.size, 1, none⟩ (.slice Aq nq cq) = WA6 at *
          clear hGWA6
          refine wpAnyH_done (by kernel_rfl) ?_ _
          have hHeld := hHeld13
          rotate_left 1
          exact AllReadyH.nil
          refine AllReadyH.cons (o := ⟨some 9, _, _, _, _, _⟩) rfl (fun K hK => ?_) ?_
          have lo9 := hHeld1.1.size
          obtain ⟨⟨a9_z0, a9_c0, a9_f0⟩, ⟨a9_z1, a9_c1, a9_f1⟩, ⟨a9_z2, a9_c2, a9_f2⟩, ⟨a9_z3, a9_c3, a9_f3⟩, ⟨a9_z4, a9_c4, a9_f4⟩, ⟨a9_z5, a9_c5, a9_f5⟩, ⟨a9_z6, a9_c6, a9_f6⟩, ⟨a9_z7, a9_c7, a9_f7⟩, ⟨a9_z8, a9_c8, a9_f8⟩, ⟨a9_z9, a9_c9, a9_f9⟩, ⟨a9_z10, a9_c10, a9_f10⟩, _⟩ := hHeld1.2
          (try simp at lo9); (try simp at a9_z0); (try simp at a9_z1); (try simp at a9_z2); (try simp at a9_z3); (try simp at a9_z4); (try simp at a9_z5); (try simp at a9_z6); (try simp at a9_z7); (try simp at a9_z8); (try simp at a9_z9); (try simp at a9_z10)
          go_simp
          refine hK.out _ _ (by first | exact hHeld1.alloc _ | exact (hHeld1.alloc _).drew) (fun hHeld14 => ?_)
          (try replace zl := zl.alloc2 hHeld14)
          first | have hS9 := newK2 hHeld14 | have hS9 := newK2d hHeld14
          clear hK K
          try clear hb
          try go_frame
          generalize hGWA7 : World.alloc wl (.cells #[.bool false, .slice none 0 0] 97) = WA7 at *
          clear hGWA7
          refine wpAnyH_ready (rs := [11]) (by kernel_rfl) (by simp) ?_
          refine AllReadyH.cons (o := ⟨some 35, _, _, _, _, _⟩) rfl (fun K hK => ?_) AllReadyH.nil
          go_simp
          (first | ((with_reducible refine (IN.out _).mono ?_); rintro e wl ⟨bl, Al, nl, cl, rfl, hb, zl⟩) | ((try rw [e1]); (try rw [e2]); (with_reducible refine (IT.out _).mono ?_); rintro e wd ⟨bd, Ad, nd, cd, rfl, hb, zd⟩) | ((with_reducible refine (MN.out _ _ _ zl zd).mono ?_); rintro e wm ⟨bp, Ap, np, cp, rfl, hb, zp⟩) | ((with_reducible refine (SU.out _ _ _ (HM8.out.below (belK (L := [(g8, 0, .bool bm), (g8, 1, .slice Am nm cm), (gb, 0, .int .i64 t), (gb, 1, .int .i64 lo), (gb, 2, .int .i64 hi), (w.heap.size, 0, .int .i64 n), (w.heap.size, 1, .int .i64 d), (w.heap.size + 1, 0, .bool false), (w.heap.size + 1, 1, .slice none 0 0), (w.heap.size + 1 + 1, 0, .bool b), (w.heap.size + 1 + 1, 1, .slice A' n' c')]) (by assumption))) zp).mono ?_); rintro e wq ⟨bq, Aq, nq, cq, rfl, hb, zq⟩))
          refine hK.out _ _ (hHeld14.next hb) (fun hHeld15 => ?_)
          replace hS9 := hS9.next hb
          (try replace zl := zl.below hb)
          clear hK K
          try clear hb
          try go_frame
          refine wpAnyH_ready (rs := [12]) (by kernel_rfl) (by simp) ?_
          refine AllReadyH.cons (o := ⟨some 36, _, _, _, _, _⟩) rfl (fun K hK => ?_) AllReadyH.nil
          go_simp
          (first | ((with_reducible refine (IN.out _).mono ?_); rintro e wl ⟨bl, Al, nl, cl, rfl, hb, zl⟩) | ((try rw [e1]); (try rw [e2]); (with_reducible refine (IT.out _).mono ?_); rintro e wd ⟨bd, Ad, nd, cd, rfl, hb, zd⟩) | ((with_reducible refine (MN.out _ _ _ zl zd).mono ?_); rintro e wm ⟨bp, Ap, np, cp, rfl, hb, zp⟩) | ((with_reducible refine (SU.out _ _ _ (HM8.out.below (belK (L := [(g8, 0, .bool bm), (g8, 1, .slice Am nm cm), (gb, 0, .int .i64 t), (gb, 1, .int .i64 lo), (gb, 2, .int .i64 hi), (w.heap.size, 0, .int .i64 n), (w.heap.size, 1, .int .i64 d), (w.heap.size + 1, 0, .bool false), (w.heap.size + 1, 1, .slice none 0 0), (w.heap.size + 1 + 1, 0, .bool b), (w.heap.size + 1 + 1, 1, .slice A' n' c')]) (by assumption))) zp).mono ?_); rintro e wq ⟨bq, Aq, nq, cq, rfl, hb, zq⟩))
          refine hK.out _ _ (hHeld15.next hb) (fun hHeld16 => ?_)
          replace hS9 := hS9.next hb
          (try replace zl := zl.below hb)
          (try replace zd := zd.below hb)
          clear hK K
          try clear hb
          try go_frame
          refine wpAnyH_ready (rs := [13]) (by kernel_rfl) (by simp) ?_
          refine AllReadyH.cons (o := ⟨some 37, _, _, _, _, _⟩) rfl (fun K hK => ?_) AllReadyH.nil
          go_simp
          (first | ((with_reducible refine (IN.out _).mono ?_); rintro e wl ⟨bl, Al, nl, cl, rfl, hb, zl⟩) | ((try rw [e1]); (try rw [e2]); (with_reducible refine (IT.out _).mono ?_); rintro e wd ⟨bd, Ad, nd, cd, rfl, hb, zd⟩) | ((with_reducible refine (MN.out _ _ _ zl zd).mono ?_); rintro e wm ⟨bp, Ap, np, cp, rfl, hb, zp⟩) | ((with_reducible refine (SU.out _ _ _ (HM8.out.below (belK (L := [(g8, 0, .bool bm), (g8, 1, .slice Am nm cm), (gb, 0, .int .i64 t), (gb, 1, .int .i64 lo), (gb, 2, .int .i64 hi), (w.heap.size, 0, .int .i64 n), (w.heap.size, 1, .int .i64 d), (w.heap.size + 1, 0, .bool false), (w.heap.size + 1, 1, .slice none 0 0), (w.heap.size + 1 + 1, 0, .bool b), (w.heap.size + 1 + 1, 1, .slice A' n' c')]) (by assumption))) zp).mono ?_); rintro e wq ⟨bq, Aq, nq, cq, rfl, hb, zq⟩))
          refine hK.out _ _ (hHeld16.next hb) (fun hHeld17 => ?_)
          replace hS9 := hS9.next hb
          (try replace zp := zp.below hb)
          clear hK K
          try clear hb
          try go_frame
          refine wpAnyH_ready (rs := [15]) (by kernel_rfl) (by simp) ?_
          refine AllReadyH.cons (o := ⟨none, _, _, _, _, _⟩) rfl (fun K hK => ?_) AllReadyH.nil
          obtain ⟨⟨s9z0, s9c0, s9f0⟩, ⟨s9z1, s9c1, s9f1⟩, _⟩ := hS9.2
          go_simp
          refine hK.out _ _ (by (repeat (first | (with_reducible exact hHeld17) | (refine Keeps.set ?_ (by simp <;> omega) (by simp <;> omega) _)))) (fun hHeld18 => ?_)
          (try replace zq := zq.store2 hHeld18 s9c0 s9c1)
          replace hS9 := hHeld18.add2 s9z0 s9c0 s9f0 s9c1 s9f1
          clear s9z0 s9c0 s9f0 s9z1 s9c1 s9f1
          clear hK K
          try clear hb
          try go_frame
          generalize hGWA8 : World.setCell (World.setCell wq ⟨wl.heap.size, 0, none⟩ (.bool bq)) ⟨wl.heap.size, 1, none⟩ (.slice Aq nq cq) = WA8 at *
          clear hGWA8
          refine wpAnyH_done (by kernel_rfl) ?_ _
          have hHeld := hHeld18
          rotate_left 1
          exact AllReadyH.nil
          refine AllReadyH.cons (o := ⟨some 9, _, _, _, _, _⟩) rfl (fun K hK => ?_) ?_
          have lo9 := hHeld0.1.size
          obtain ⟨⟨a9_z0, a9_c0, a9_f0⟩, ⟨a9_z1, a9_c1, a9_f1⟩, ⟨a9_z2, a9_c2, a9_f2⟩, ⟨a9_z3, a9_c3, a9_f3⟩, ⟨a9_z4, a9_c4, a9_f4⟩, ⟨a9_z5, a9_c5, a9_f5⟩, ⟨a9_z6, a9_c6, a9_f6⟩, ⟨a9_z7, a9_c7, a9_f7⟩, ⟨a9_z8, a9_c8, a9_f8⟩, ⟨a9_z9, a9_c9, a9_f9⟩, ⟨a9_z10, a9_c10, a9_f10⟩, _⟩ := hHeld0.2
          (try simp at lo9); (try simp at a9_z0); (try simp at a9_z1); (try simp at a9_z2); (try simp at a9_z3); (try simp at a9_z4); (try simp at a9_z5); (try simp at a9_z6); (try simp at a9_z7); (try simp at a9_z8); (try simp at a9_z9); (try simp at a9_z10)
          go_simp
          refine hK.out _ _ (by first | exact hHeld0.alloc _ | exact (hHeld0.alloc _).drew) (fun hHeld19 => ?_)
          first | have hS9 := newK2 hHeld19 | have hS9 := newK2d hHeld19
          clear hK K
          try clear hb
          try go_frame
          generalize hGWA9 : World.alloc wc (.cells #[.bool false, .slice none 0 0] 97) = WA9 at *
          clear hGWA9
          refine wpAnyH_ready (rs := [3]) (by kernel_rfl) (by simp) ?_
          refine AllReadyH.cons (o := ⟨some 27, _, _, _, _, _⟩) rfl (fun K hK => ?_) AllReadyH.nil
          go_simp
          (first | ((with_reducible refine (IN.out _).mono ?_); rintro e wl ⟨bl, Al, nl, cl, rfl, hb, zl⟩) | ((try rw [e1]); (try rw [e2]); (with_reducible refine (IT.out _).mono ?_); rintro e wd ⟨bd, Ad, nd, cd, rfl, hb, zd⟩) | ((with_reducible refine (MN.out _ _ _ zl zd).mono ?_); rintro e wm ⟨bp, Ap, np, cp, rfl, hb, zp⟩) | ((with_reducible refine (SU.out _ _ _ (HM8.out.below (belK (L := [(g8, 0, .bool bm), (g8, 1, .slice Am nm cm), (gb, 0, .int .i64 t), (gb, 1, .int .i64 lo), (gb, 2, .int .i64 hi), (w.heap.size, 0, .int .i64 n), (w.heap.size, 1, .int .i64 d), (w.heap.size + 1, 0, .bool false), (w.heap.size + 1, 1, .slice none 0 0), (w.heap.size + 1 + 1, 0, .bool b), (w.heap.size + 1 + 1, 1, .slice A' n' c')]) (by assumption))) zp).mono ?_); rintro e wq ⟨bq, Aq, nq, cq, rfl, hb, zq⟩))
          refine hK.out _ _ (hHeld19.next hb) (fun hHeld20 => ?_)
          replace hS9 := hS9.next hb
          clear hK K
          try clear hb
          try go_frame
          refine wpAnyH_ready (rs := [11]) (by kernel_rfl) (by simp) ?_
          refine AllReadyH.cons (o := ⟨some 35, _, _, _, _, _⟩) rfl (fun K hK => ?_) AllReadyH.nil
          go_simp
          (first | ((with_reducible refine (IN.out _).mono ?_); rintro e wl ⟨bl, Al, nl, cl, rfl, hb, zl⟩) | ((try rw [e1]); (try rw [e2]); (with_reducible refine (IT.out _).mono ?_); rintro e wd ⟨bd, Ad, nd, cd, rfl, hb, zd⟩) | ((with_reducible refine (MN.out _ _ _ zl zd).mono ?_); rintro e wm ⟨bp, Ap, np, cp, rfl, hb, zp⟩) | ((with_reducible refine (SU.out _ _ _ (HM8.out.below (belK (L := [(g8, 0, .bool bm), (g8, 1, .slice Am nm cm), (gb, 0, .int .i64 t), (gb, 1, .int .i64 lo), (gb, 2, .int .i64 hi), (w.heap.size, 0, .int .i64 n), (w.heap.size, 1, .int .i64 d), (w.heap.size + 1, 0, .bool false), (w.heap.size + 1, 1, .slice none 0 0), (w.heap.size + 1 + 1, 0, .bool b), (w.heap.size + 1 + 1, 1, .slice A' n' c')]) (by assumption))) zp).mono ?_); rintro e wq ⟨bq, Aq, nq, cq, rfl, hb, zq⟩))
          refine hK.out _ _ (hHeld20.next hb) (fun hHeld21 => ?_)
          replace hS9 := hS9.next hb
          (try replace zl := zl.below hb)
          clear hK K
          try clear hb
          try go_frame
          refine wpAnyH_ready (rs := [12]) (by kernel_rfl) (by simp) ?_
          refine AllReadyH.cons (o := ⟨some 36, _, _, _, _, _⟩) rfl (fun K hK => ?_) AllReadyH.nil
          go_simp
          (first | ((with_reducible refine (IN.out _).mono ?_); rintro e wl ⟨bl, Al, nl, cl, rfl, hb, zl⟩) | ((try rw [e1]); (try rw [e2]); (with_reducible refine (IT.out _).mono ?_); rintro e wd ⟨bd, Ad, nd, cd, rfl, hb, zd⟩) | ((with_reducible refine (MN.out _ _ _ zl zd).mono ?_); rintro e wm ⟨bp, Ap, np, cp, rfl, hb, zp⟩) | ((with_reducible refine (SU.out _ _ _ (HM8.out.below (belK (L := [(g8, 0, .bool bm), (g8, 1, .slice Am nm cm), (gb, 0, .int .i64 t), (gb, 1, .int .i64 lo), (gb, 2, .int .i64 hi), (w.heap.size, 0, .int .i64 n), (w.heap.size, 1, .int .i64 d), (w.heap.size + 1, 0, .bool false), (w.heap.size + 1, 1, .slice none 0 0), (w.heap.size + 1 + 1, 0, .bool b), (w.heap.size + 1 + 1, 1, .slice A' n' c')]) (by assumption))) zp).mono ?_); rintro e wq ⟨bq, Aq, nq, cq, rfl, hb, zq⟩))
          refine hK.out _ _ (hHeld21.next hb) (fun hHeld22 => ?_)
          replace hS9 := hS9.next hb
          (try replace zl := zl.below hb)
          (try replace zd := zd.below hb)
          clear hK K
          try clear hb
          try go_frame
          refine wpAnyH_ready (rs := [13]) (by kernel_rfl) (by simp) ?_
          refine AllReadyH.cons (o := ⟨some 37, _, _, _, _, _⟩) rfl (fun K hK => ?_) AllReadyH.nil
          go_simp
          (first | ((with_reducible refine (IN.out _).mono ?_); rintro e wl ⟨bl, Al, nl, cl, rfl, hb, zl⟩) | ((try rw [e1]); (try rw [e2]); (with_reducible refine (IT.out _).mono ?_); rintro e wd ⟨bd, Ad, nd, cd, rfl, hb, zd⟩) | ((with_reducible refine (MN.out _ _ _ zl zd).mono ?_); rintro e wm ⟨bp, Ap, np, cp, rfl, hb, zp⟩) | ((with_reducible refine (SU.out _ _ _ (HM8.out.below (belK (L := [(g8, 0, .bool bm), (g8, 1, .slice Am nm cm), (gb, 0, .int .i64 t), (gb, 1, .int .i64 lo), (gb, 2, .int .i64 hi), (w.heap.size, 0, .int .i64 n), (w.heap.size, 1, .int .i64 d), (w.heap.size + 1, 0, .bool false), (w.heap.size + 1, 1, .slice none 0 0), (w.heap.size + 1 + 1, 0, .bool b), (w.heap.size + 1 + 1, 1, .slice A' n' c')]) (by assumption))) zp).mono ?_); rintro e wq ⟨bq, Aq, nq, cq, rfl, hb, zq⟩))
          refine hK.out _ _ (hHeld22.next hb) (fun hHeld23 => ?_)
          replace hS9 := hS9.next hb
          (try replace zp := zp.below hb)
          clear hK K
          try clear hb
          try go_frame
          refine wpAnyH_ready (rs := [15]) (by kernel_rfl) (by simp) ?_
          refine AllReadyH.cons (o := ⟨none, _, _, _, _, _⟩) rfl (fun K hK => ?_) AllReadyH.nil
          obtain ⟨⟨s9z0, s9c0, s9f0⟩, ⟨s9z1, s9c1, s9f1⟩, _⟩ := hS9.2
          go_simp
          refine hK.out _ _ (by (repeat (first | (with_reducible exact hHeld23) | (refine Keeps.set ?_ (by simp <;> omega) (by simp <;> omega) _)))) (fun hHeld24 => ?_)
          (try replace zq := zq.store2 hHeld24 s9c0 s9c1)
          replace hS9 := hHeld24.add2 s9z0 s9c0 s9f0 s9c1 s9f1
          clear s9z0 s9c0 s9f0 s9z1 s9c1 s9f1
          clear hK K
          try clear hb
          try go_frame
          generalize hGWA10 : World.setCell (World.setCell wq ⟨wc.heap.size, 0, none⟩ (.bool bq)) ⟨wc.heap.size, 1, none⟩ (.slice Aq nq cq) = WA10 at *
          clear hGWA10
          refine wpAnyH_done (by kernel_rfl) ?_ _
          have hHeld := hHeld24
          rotate_left 1
          exact AllReadyH.nil
          all_goals
            go_wp2_with fail
            go_meet
            case rel =>
              obtain ⟨hbs, a0, a1, _, _, _, _, _, q0⟩ := hS9
              exact ⟨_, bq, Aq, nq, cq, rfl, Lib.hid zq, hbs, under hBase.out hbs, a0, a1, q0⟩
        case rest =>
          obtain ⟨g9, bq, Aq, nq, cq, rfl, HM9, hb9, hHs9⟩ := hcut
          have HZ10 := Lib.hid (fun h0 => (HZ8.out h0).below hb9)
          have HH9 := Lib.hid hHs9
          clear hHs8 IN IT MN SU HZ8 HM8 hb9
          obtain ⟨⟨kz0, kc0, kf0⟩, ⟨kz1, kc1, kf1⟩, ⟨kz2, kc2, kf2⟩, ⟨kz3, kc3, kf3⟩, ⟨kz4, kc4, kf4⟩, ⟨kz5, kc5, kf5⟩, ⟨kz6, kc6, kf6⟩, ⟨kz7, kc7, kf7⟩, _⟩ := hHs9.2
          by_cases gk0 : k = 0
          · have EV := Lib.hid (CO.out gk0)
            have HN10 := Lib.hid (HM9.out.set2 kc6 kc7 (.bool bq) (.slice Aq nq cq))
            have HK10 := Lib.hid (show Keeps w [(w.heap.size, 0, .int .i64 n), (w.heap.size, 1, .int .i64 d), (w.heap.size + 1, 0, .bool false), (w.heap.size + 1, 1, .slice none 0 0), (w.heap.size + 1 + 1, 0, .bool bq), (w.heap.size + 1 + 1, 1, .slice Aq nq cq)] ((wc.setCell ⟨w.heap.size + 1 + 1, 0, none⟩ (.bool bq)).setCell ⟨w.heap.size + 1 + 1, 1, none⟩ (.slice Aq nq cq)) by have := Keeps.upd2 (show Keeps w [(w.heap.size, 0, .int .i64 n), (w.heap.size, 1, .int .i64 d), (w.heap.size + 1, 0, .bool false), (w.heap.size + 1, 1, .slice none 0 0), (w.heap.size + 1 + 1, 0, .bool b), (w.heap.size + 1 + 1, 1, .slice A' n' c')] wc from ⟨HH9.out.1, HH9.out.2.2.2⟩) kc6 kc7 (by decide) (Nat.le_trans (Nat.le_succ _) (Nat.le_succ _)) (.bool bq) (.slice Aq nq cq); simpa [updL, ne_up2', ne_dn2'] using this)
            clear LE CM CO HZ10 HM9 hHs9
            subst gk0
            go_wp2_with fail
            go_roundw
            case rel => exact ⟨0 + 1, bq, Aq, nq, cq, by simp, gk, Lib.hid (fun _ => by rw [← HT0.out, EV.out]; exact HN10.out), HK10⟩
            case measure => exact index_less gk
          · have EV := Lib.hid (CM.out gk0)
            have HZN := Lib.hid (HZ10.out gk0)
            have LL := Lib.hid (LE.out _ _ _ HZN.out HM9.out)
            have i6 : ¬ (k : Int) = 0 := by omega
            have i7 : ((k : Int) == 0) = false := beq_eq_false_iff_ne.2 i6
            clear LE CM CO HZ10 hHs9
            by_cases gl : M < lo * d - n * (t - t0)
            · rw [decide_eq_true gl] at LL
              rw [if_pos gl] at EV
              clear gl
              go_wp2_with fail
              refine LL.out.mono ?_
              rintro en w8 ⟨rfl, hb8⟩
              have HH8 := Lib.hid (HH9.out.next hb8)
              have HM8 := Lib.hid (HM9.out.below hb8)
              clear hb8 LL HM9 HH9 HZN kz0 kc0 kf0 kz1 kc1 kf1 kz2 kc2 kf2 kz3 kc3 kf3 kz4 kc4 kf4 kz5 kc5 kf5 kz6 kc6 kf6 kz7 kc7 kf7
              obtain ⟨⟨kz0, kc0, kf0⟩, ⟨kz1, kc1, kf1⟩, ⟨kz2, kc2, kf2⟩, ⟨kz3, kc3, kf3⟩, ⟨kz4, kc4, kf4⟩, ⟨kz5, kc5, kf5⟩, ⟨kz6, kc6, kf6⟩, ⟨kz7, kc7, kf7⟩, _⟩ := HH8.out.2
              have HN10 := Lib.hid (HM8.out.set2 kc6 kc7 (.bool bq) (.slice Aq nq cq))
              have HK10 := Lib.hid (show Keeps w [(w.heap.size, 0, .int .i64 n), (w.heap.size, 1, .int .i64 d), (w.heap.size + 1, 0, .bool false), (w.heap.size + 1, 1, .slice none 0 0), (w.heap.size + 1 + 1, 0, .bool bq), (w.heap.size + 1 + 1, 1, .slice Aq nq cq)] ((w8.setCell ⟨w.heap.size + 1 + 1, 0, none⟩ (.bool bq)).setCell ⟨w.heap.size + 1 + 1, 1, none⟩ (.slice Aq nq cq)) by have := Keeps.upd2 (show Keeps w [(w.heap.size, 0, .int .i64 n), (w.heap.size, 1, .int .i64 d), (w.heap.size + 1, 0, .bool false), (w.heap.size + 1, 1, .slice none 0 0), (w.heap.size + 1 + 1, 0, .bool b), (w.heap.size + 1 + 1, 1, .slice A' n' c')] w8 from ⟨HH8.out.1, HH8.out.2.2.2⟩) kc6 kc7 (by decide) (Nat.le_trans (Nat.le_succ _) (Nat.le_succ _)) (.bool bq) (.slice Aq nq cq); simpa [updL, ne_up2', ne_dn2'] using this)
              clear HM8
              go_wp2_with fail
              go_roundw
              case rel => exact ⟨k + 1, bq, Aq, nq, cq, by simp, gk, Lib.hid (fun _ => by rw [← HT0.out, EV.out]; exact HN10.out), HK10⟩
              case measure => exact index_less gk
            · rw [decide_eq_false gl] at LL
              rw [if_neg gl] at EV
              clear gl
              go_wp2_with fail
              refine LL.out.mono ?_
              rintro en w8 ⟨rfl, hb8⟩
              have HH8 := Lib.hid (HH9.out.next hb8)
              have HN8 := Lib.hid (HZN.out.below hb8)
              have HK10 := Lib.hid (show Keeps w [(w.heap.size, 0, .int .i64 n), (w.heap.size, 1, .int .i64 d), (w.heap.size + 1, 0, .bool false), (w.heap.size + 1, 1, .slice none 0 0), (w.heap.size + 1 + 1, 0, .bool b), (w.heap.size + 1 + 1, 1, .slice A' n' c')] w8 from ⟨HH8.out.1, HH8.out.2.2.2⟩)
              clear hb8 LL HM9 HH9 HZN HH8 kz0 kc0 kf0 kz1 kc1 kf1 kz2 kc2 kf2 kz3 kc3 kf3 kz4 kc4 kf4 kz5 kc5 kf5 kz6 kc6 kf6 kz7 kc7 kf7
              go_wp2_with fail
              go_roundw
              case rel => exact ⟨k + 1, b, A', n', c', by simp, gk, Lib.hid (fun _ => by rw [← HT0.out, EV.out]; exact HN8.out), HK10⟩
              case measure => exact index_less gk
    · have hkk : k = l.length := by omega
      have i1 : ¬ (k : Int) < (l.length : Int) := by omega
      have hz := hZ.out (by have := List.length_pos_iff.2 HNE.out; omega)
      rw [hkk, List.take_length] at hz
      have HZL := Lib.hid hz
      obtain ⟨⟨kz0, kc0, kf0⟩, ⟨kz1, kc1, kf1⟩, ⟨kz2, kc2, kf2⟩, ⟨kz3, kc3, kf3⟩, ⟨kz4, kc4, kf4⟩, ⟨kz5, kc5, kf5⟩, _⟩ := hB.out.2
      have HBW := Lib.hid ((hB.out.1.setCell (p := ⟨w.heap.size + 1, 0, none⟩) (Nat.le_succ _) (.bool b)).setCell (p := ⟨w.heap.size + 1, 1, none⟩) (Nat.le_succ _) (.slice A' n' c'))
      have HNW := Lib.hid (hz.set2 kc2 kc3 (.bool b) (.slice A' n' c'))
      obtain ⟨d0, d1⟩ := set2 (W := wr) (B := w.heap.size + 1) (u0 := .bool b) (u1 := .slice A' n' c') kc2 kc3
      clear hkk hz hZ hB
      go_wp2_with fail
      refine bodyPost_ret (v := .agg #[.bool b, .slice A' n' c']) (by simp [results, Tryz.results65, go_sem, d0, d1]) rfl ?_
      exact ⟨b, A', n', c', rfl, HBW.out, HNW.out⟩
end Go.Proofs.YtmdhgiaaofdjiaaGreat.P10
