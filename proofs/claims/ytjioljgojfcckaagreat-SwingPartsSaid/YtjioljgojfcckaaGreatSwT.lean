/-
  The document's own answers for layer 9: Hinge, and a slope from it. Conditions: those written at each fact.
-/
import Derived.Maps.RangeWalk
import Derived.Test.YtjioljgojfcckaaGreatRB
import Derived.Test.YtjioljgojfcckaaGreatBA
namespace Go.Proofs.YtjioljgojfcckaaGreat.P9
open Go.RowKit Go.Shelf Go.Proofs.YtjioljgojfcckaaGreat.P8

theorem bel9 {w W : World} {L : List (Nat × Nat × Value)} (h : Keeps w L W) : Below w.heap.size w W := h.1
theorem z_len (z : Int) (h1 : -9223372036854775808 ≤ z) (h2 : z ≤ 9223372036854775807) : (sizeL z.natAbs).length ≤ 64 := sizeL_length 64 _ (by omega)
theorem z_long (k : Nat) (z : Int) (h : z.natAbs < 2 ^ k) (hk : k ≤ 3990) : (sizeL z.natAbs).length ≤ 3990 := Nat.le_trans (sizeL_length k _ h) hk
theorem value_mid {z : Int} (h1 : -9223372036854775808 ≤ z) (h2 : z ≤ 9223372036854775807) : valueV z = z ∧ valueB z = true := by
  unfold valueV valueB
  refine ⟨?_, ?_⟩
  · rw [if_pos (by omega)]
  · exact decide_eq_true (by omega)
set_option maxRecDepth 100000 in
set_option maxHeartbeats 16000000 in
theorem refHinge_any (t lo hi : Int) (l : List Bd) (hb : BdOk ⟨t, lo, hi⟩) (v : Value) (w : World) (h : ReadsD w v (⟨t, lo, hi⟩ :: l)) : Calls Tryz.prog 32 #[v] w (Ret w (.int .i64 ((lo + hi) / 2))) := by
  obtain ⟨A, c, rfl, hc, hk⟩ := h
  obtain ⟨bb, off, rfl, hbw, hp0, hp1, hp2⟩ := hk 0 _ rfl
  simp only [Nat.zero_mul, Nat.add_zero] at hp0 hp1 hp2
  have HP := Lib.hid (And.intro hp1 hp2)
  obtain ⟨_, _, g3, g4, g5⟩ := hb
  simp only at g3 g4 g5
  have i3 : (0 : Int) < ((⟨t, lo, hi⟩ :: l : List Bd).length : Int) := by simp only [List.length_cons]; omega
  have i4 : 0 < (⟨t, lo, hi⟩ :: l : List Bd).length := by simp
  generalize (⟨t, lo, hi⟩ :: l : List Bd).length = len at *
  have ll := z_len lo (by omega) (by omega)
  have lh := z_len hi (by omega) (by omega)
  have la := z_long 70 (lo + hi) (by omega) (by omega)
  have IL := Lib.hid (fun W => intZ_any lo (by omega) (by omega) W)
  have IH := Lib.hid (fun W => intZ_any hi (by omega) (by omega) W)
  have I2 := Lib.hid (fun W => intZ_any 2 (by omega) (by omega) W)
  have AD := Lib.hid (fun u u' W k k' => addZ_any lo hi (by omega) (by omega) u u' W k k')
  have l2' : (sizeL 2).length ≤ 64 := sizeL_length 64 2 (by omega)
  have ld : (sizeL (lo + hi).natAbs).length ≤ 70 := sizeL_length 70 _ (by omega)
  have DV := Lib.hid (fun u u' W k (k' : NumZ W u' 2) => (show Calls Tryz.prog 56 #[u, u'] W (RetZZ W ((lo + hi) / 2) ((lo + hi) % 2)) from divZ_any (lo + hi) 2 (by omega) (by omega) (by omega) u u' W k k'))
  have VA := fun v W k => valueZ_any ((lo + hi) / 2) (Nat.le_trans (z_long 70 _ (by omega) (by omega)) (by omega)) v W k
  rw [(value_mid (z := (lo + hi) / 2) (by omega) (by omega)).1, (value_mid (z := (lo + hi) / 2) (by omega) (by omega)).2] at VA
  replace VA := Lib.hid VA
  clear ll lh la l2' ld hp0 hp1 hp2 hk hc g3 g4 g5
  generalize (lo + hi) / 2 = q at *
  generalize (lo + hi) % 2 = r at *
  generalize lo + hi = s at *
  go_enter Tryz.func32, Tryz.ntmps32
  go_upto_region 1 with (fail)
  go_cut [3] (fun s3 wx => ∃ (g : Nat) (b : Bool) (A : Option Addr) (n c : Nat), s3 = .pointer (some ⟨g, 0, none⟩) ∧ Hid (NumZ wx (.agg #[.bool b, .slice A n c]) s) ∧ Keeps w [(g, 0, .bool b), (g, 1, .slice A n c)] wx)
  case first =>
    refine region_keeps (w0 := w) (L := []) (by kernel_rfl) ⟨Below.refl _ _, trivial⟩ (fun hHeld0 => ?_)
    refine wpAnyH_take (i := 0) (oi := ⟨some 8, _, _, _, _, _⟩) (v := ?_) rfl (by kernel_rfl) (by kernel_rfl) (by kernel_rfl) (fun _ _ _ h => h) (Or.inl ⟨by rfl, ?_⟩) (by assumption) ?_
    rotate_left
    · intro wq hSw; go_simp; (try with_reducible rfl)
    try go_frame
    refine wpAnyH_take (i := 1) (oi := ⟨some 9, _, _, _, _, _⟩) (v := ?_) rfl (by kernel_rfl) (by kernel_rfl) (by kernel_rfl) (fun _ _ _ h => h) (Or.inl ⟨by rfl, ?_⟩) (by assumption) ?_
    rotate_left
    · intro wq hSw; go_simp; (try with_reducible rfl)
    try go_frame
    refine wpAnyH_take (i := 2) (oi := ⟨some 10, _, _, _, _, _⟩) (v := ?_) rfl (by kernel_rfl) (by kernel_rfl) (by kernel_rfl) (fun _ _ _ h => h) (Or.inl ⟨by rfl, ?_⟩) (by assumption) ?_
    rotate_left
    · intro wq hSw; go_simp; (try with_reducible rfl)
    try go_frame
    refine wpAnyH_take (i := 3) (oi := ⟨some 11, _, _, _, _, _⟩) (v := ?_) rfl (by kernel_rfl) (by kernel_rfl) (by kernel_rfl) (fun _ _ _ h => h) (Or.inl ⟨by rfl, ?_⟩) (by assumption) ?_
    rotate_left
    · intro wq hSw; obtain _ := hSw.2; have hp1 := (hSw.1.cell (p := ⟨bb, off + 1, none⟩) hbw).trans HP.out.1; have hp2 := (hSw.1.cell (p := ⟨bb, off + 2, none⟩) hbw).trans HP.out.2; go_simp; (try with_reducible rfl)
    try go_frame
    refine wpAnyH_take (i := 5) (oi := ⟨some 13, _, _, _, _, _⟩) (v := ?_) rfl (by kernel_rfl) (by kernel_rfl) (by kernel_rfl) (fun _ _ _ h => h) (Or.inl ⟨by rfl, ?_⟩) (by assumption) ?_
    rotate_left
    · intro wq hSw; go_simp; (try with_reducible rfl)
    try go_frame
    refine wpAnyH_take (i := 6) (oi := ⟨some 14, _, _, _, _, _⟩) (v := ?_) rfl (by kernel_rfl) (by kernel_rfl) (by kernel_rfl) (fun _ _ _ h => h) (Or.inl ⟨by rfl, ?_⟩) (by assumption) ?_
    rotate_left
    · intro wq hSw; go_simp; (try with_reducible rfl)
    try go_frame
    refine wpAnyH_take (i := 7) (oi := ⟨some 15, _, _, _, _, _⟩) (v := ?_) rfl (by kernel_rfl) (by kernel_rfl) (by kernel_rfl) (fun _ _ _ h => h) (Or.inl ⟨by rfl, ?_⟩) (by assumption) ?_
    rotate_left
    · intro wq hSw; go_simp; (try with_reducible rfl)
    try go_frame
    refine wpAnyH_take (i := 8) (oi := ⟨some 16, _, _, _, _, _⟩) (v := ?_) rfl (by kernel_rfl) (by kernel_rfl) (by kernel_rfl) (fun _ _ _ h => h) (Or.inl ⟨by rfl, ?_⟩) (by assumption) ?_
    rotate_left
    · intro wq hSw; obtain _ := hSw.2; have hp1 := (hSw.1.cell (p := ⟨bb, off + 1, none⟩) hbw).trans HP.out.1; have hp2 := (hSw.1.cell (p := ⟨bb, off + 2, none⟩) hbw).trans HP.out.2; go_simp; (try with_reducible rfl)
    try go_frame
    refine wpAnyH_ready (rs := [4, 11]) (by kernel_rfl) (by simp) ?_
    refine AllReadyH.cons (o := ⟨some 12, _, _, _, _, _⟩) rfl (fun K hK => ?_) ?_
    go_simp
    (first | ((with_reducible refine (IL.out _).mono ?_); rintro e wl ⟨bl, Al, nl, cl, rfl, hb, zl⟩) | ((with_reducible refine (IH.out _).mono ?_); rintro e wh ⟨bh, Ah, nh, ch, rfl, hb, zh⟩) | ((with_reducible refine (AD.out _ _ _ zl zh).mono ?_); rintro e wa ⟨ba, Aa, na, ca, rfl, hb, za⟩))
    refine hK.out _ _ (hHeld0.next hb) (fun hHeld1 => ?_)
    clear hK K
    try clear hb
    try go_frame
    refine wpAnyH_ready (rs := [9, 11]) (by kernel_rfl) (by simp) ?_
    refine AllReadyH.cons (o := ⟨some 17, _, _, _, _, _⟩) rfl (fun K hK => ?_) ?_
    go_simp
    (first | ((with_reducible refine (IL.out _).mono ?_); rintro e wl ⟨bl, Al, nl, cl, rfl, hb, zl⟩) | ((with_reducible refine (IH.out _).mono ?_); rintro e wh ⟨bh, Ah, nh, ch, rfl, hb, zh⟩) | ((with_reducible refine (AD.out _ _ _ zl zh).mono ?_); rintro e wa ⟨ba, Aa, na, ca, rfl, hb, za⟩))
    refine hK.out _ _ (hHeld1.next hb) (fun hHeld2 => ?_)
    (try replace zl := zl.below hb)
    clear hK K
    try clear hb
    try go_frame
    refine wpAnyH_ready (rs := [10, 11]) (by kernel_rfl) (by simp) ?_
    refine AllReadyH.cons (o := ⟨some 18, _, _, _, _, _⟩) rfl (fun K hK => ?_) ?_
    go_simp
    (first | ((with_reducible refine (IL.out _).mono ?_); rintro e wl ⟨bl, Al, nl, cl, rfl, hb, zl⟩) | ((with_reducible refine (IH.out _).mono ?_); rintro e wh ⟨bh, Ah, nh, ch, rfl, hb, zh⟩) | ((with_reducible refine (AD.out _ _ _ zl zh).mono ?_); rintro e wa ⟨ba, Aa, na, ca, rfl, hb, za⟩))
    refine hK.out _ _ (hHeld2.next hb) (fun hHeld3 => ?_)
    (try replace zl := zl.below hb)
    (try replace zh := zh.below hb)
    clear hK K
    try clear hb
    try go_frame
    refine wpAnyH_ready (rs := [11]) (by kernel_rfl) (by simp) ?_
    refine AllReadyH.cons (o := ⟨some 3, _, _, _, _, _⟩) rfl (fun K hK => ?_) AllReadyH.nil
    have lo3 := hHeld3.1.size
    (try simp at lo3)
    go_simp
    refine hK.out _ _ (by first | exact hHeld3.alloc _ | exact (hHeld3.alloc _).drew) (fun hHeld4 => ?_)
    (try replace za := za.alloc2 hHeld4)
    first | have hS3 := newK2 hHeld4 | have hS3 := newK2d hHeld4
    clear hK K
    try clear hb
    try go_frame
    generalize hGWA1 : World.alloc wa (.cells #[.bool false, .slice none 0 0] 91) = WA1 at *
    clear hGWA1
    refine wpAnyH_ready (rs := [12]) (by kernel_rfl) (by simp) ?_
    refine AllReadyH.cons (o := ⟨none, _, _, _, _, _⟩) rfl (fun K hK => ?_) AllReadyH.nil
    obtain ⟨⟨s3z0, s3c0, s3f0⟩, ⟨s3z1, s3c1, s3f1⟩, _⟩ := hS3.2
    go_simp
    refine hK.out _ _ (by (repeat (first | (with_reducible exact hHeld4) | (refine Keeps.set ?_ (by simp <;> omega) (by simp <;> omega) _)))) (fun hHeld5 => ?_)
    (try replace za := za.store2 hHeld5 s3c0 s3c1)
    replace hS3 := hHeld5.add2 s3z0 s3c0 s3f0 s3c1 s3f1
    clear s3z0 s3c0 s3f0 s3z1 s3c1 s3f1
    clear hK K
    try clear hb
    try go_frame
    generalize hGWA2 : World.setCell (World.setCell WA1 ⟨wa.heap.size, 0, none⟩ (.bool ba)) ⟨wa.heap.size, 1, none⟩ (.slice Aa na ca) = WA2 at *
    clear hGWA2
    refine wpAnyH_done (by kernel_rfl) ?_ _
    have hHeld := hHeld5
    rotate_left 1
    refine AllReadyH.cons (o := ⟨some 3, _, _, _, _, _⟩) rfl (fun K hK => ?_) ?_
    have lo3 := hHeld2.1.size
    (try simp at lo3)
    go_simp
    refine hK.out _ _ (by first | exact hHeld2.alloc _ | exact (hHeld2.alloc _).drew) (fun hHeld6 => ?_)
    (try replace zl := zl.alloc2 hHeld6)
    (try replace zh := zh.alloc2 hHeld6)
    first | have hS3 := newK2 hHeld6 | have hS3 := newK2d hHeld6
    clear hK K
    try clear hb
    try go_frame
    generalize hGWA3 : World.alloc wh (.cells #[.bool false, .slice none 0 0] 91) = WA3 at *
    clear hGWA3
    refine wpAnyH_ready (rs := [10]) (by kernel_rfl) (by simp) ?_
    refine AllReadyH.cons (o := ⟨some 18, _, _, _, _, _⟩) rfl (fun K hK => ?_) AllReadyH.nil
    go_simp
    (first | ((with_reducible refine (IL.out _).mono ?_); rintro e wl ⟨bl, Al, nl, cl, rfl, hb, zl⟩) | ((with_reducible refine (IH.out _).mono ?_); rintro e wh ⟨bh, Ah, nh, ch, rfl, hb, zh⟩) | ((with_reducible refine (AD.out _ _ _ zl zh).mono ?_); rintro e wa ⟨ba, Aa, na, ca, rfl, hb, za⟩))
    refine hK.out _ _ (hHeld6.next hb) (fun hHeld7 => ?_)
    replace hS3 := hS3.next hb
    (try replace zl := zl.below hb)
    (try replace zh := zh.below hb)
    clear hK K
    try clear hb
    try go_frame
    refine wpAnyH_ready (rs := [12]) (by kernel_rfl) (by simp) ?_
    refine AllReadyH.cons (o := ⟨none, _, _, _, _, _⟩) rfl (fun K hK => ?_) AllReadyH.nil
    obtain ⟨⟨s3z0, s3c0, s3f0⟩, ⟨s3z1, s3c1, s3f1⟩, _⟩ := hS3.2
    go_simp
    refine hK.out _ _ (by (repeat (first | (with_reducible exact hHeld7) | (refine Keeps.set ?_ (by simp <;> omega) (by simp <;> omega) _)))) (fun hHeld8 => ?_)
    (try replace za := za.store2 hHeld8 s3c0 s3c1)
    replace hS3 := hHeld8.add2 s3z0 s3c0 s3f0 s3c1 s3f1
    clear s3z0 s3c0 s3f0 s3z1 s3c1 s3f1
    clear hK K
    try clear hb
    try go_frame
    generalize hGWA4 : World.setCell (World.setCell wa ⟨wh.heap.size, 0, none⟩ (.bool ba)) ⟨wh.heap.size, 1, none⟩ (.slice Aa na ca) = WA4 at *
    clear hGWA4
    refine wpAnyH_done (by kernel_rfl) ?_ _
    have hHeld := hHeld8
    rotate_left 1
    exact AllReadyH.nil
    refine AllReadyH.cons (o := ⟨some 3, _, _, _, _, _⟩) rfl (fun K hK => ?_) ?_
    have lo3 := hHeld1.1.size
    (try simp at lo3)
    go_simp
    refine hK.out _ _ (by first | exact hHeld1.alloc _ | exact (hHeld1.alloc _).drew) (fun hHeld9 => ?_)
    (try replace zl := zl.alloc2 hHeld9)
    first | have hS3 := newK2 hHeld9 | have hS3 := newK2d hHeld9
    clear hK K
    try clear hb
    try go_frame
    generalize hGWA5 : World.alloc wl (.cells #[.bool false, .slice none 0 0] 91) = WA5 at *
    clear hGWA5
    refine wpAnyH_ready (rs := [9]) (by kernel_rfl) (by simp) ?_
    refine AllReadyH.cons (o := ⟨some 17, _, _, _, _, _⟩) rfl (fun K hK => ?_) AllReadyH.nil
    go_simp
    (first | ((with_reducible refine (IL.out _).mono ?_); rintro e wl ⟨bl, Al, nl, cl, rfl, hb, zl⟩) | ((with_reducible refine (IH.out _).mono ?_); rintro e wh ⟨bh, Ah, nh, ch, rfl, hb, zh⟩) | ((with_reducible refine (AD.out _ _ _ zl zh).mono ?_); rintro e wa ⟨ba, Aa, na, ca, rfl, hb, za⟩))
    refine hK.out _ _ (hHeld9.next hb) (fun hHeld10 => ?_)
    replace hS3 := hS3.next hb
    (try replace zl := zl.below hb)
    clear hK K
    try clear hb
    try go_frame
    refine wpAnyH_ready (rs := [10]) (by kernel_rfl) (by simp) ?_
    refine AllReadyH.cons (o := ⟨some 18, _, _, _, _, _⟩) rfl (fun K hK => ?_) AllReadyH.nil
    go_simp
    (first | ((with_reducible refine (IL.out _).mono ?_); rintro e wl ⟨bl, Al, nl, cl, rfl, hb, zl⟩) | ((with_reducible refine (IH.out _).mono ?_); rintro e wh ⟨bh, Ah, nh, ch, rfl, hb, zh⟩) | ((with_reducible refine (AD.out _ _ _ zl zh).mono ?_); rintro e wa ⟨ba, Aa, na, ca, rfl, hb, za⟩))
    refine hK.out _ _ (hHeld10.next hb) (fun hHeld11 => ?_)
    replace hS3 := hS3.next hb
    (try replace zl := zl.below hb)
    (try replace zh := zh.below hb)
    clear hK K
    try clear hb
    try go_frame
    refine wpAnyH_ready (rs := [12]) (by kernel_rfl) (by simp) ?_
    refine AllReadyH.cons (o := ⟨none, _, _, _, _, _⟩) rfl (fun K hK => ?_) AllReadyH.nil
    obtain ⟨⟨s3z0, s3c0, s3f0⟩, ⟨s3z1, s3c1, s3f1⟩, _⟩ := hS3.2
    go_simp
    refine hK.out _ _ (by (repeat (first | (with_reducible exact hHeld11) | (refine Keeps.set ?_ (by simp <;> omega) (by simp <;> omega) _)))) (fun hHeld12 => ?_)
    (try replace za := za.store2 hHeld12 s3c0 s3c1)
    replace hS3 := hHeld12.add2 s3z0 s3c0 s3f0 s3c1 s3f1
    clear s3z0 s3c0 s3f0 s3z1 s3c1 s3f1
    clear hK K
    try clear hb
    try go_frame
    generalize hGWA6 : World.setCell (World.setCell wa ⟨wl.heap.size, 0, none⟩ (.bool ba)) ⟨wl.heap.size, 1, none⟩ (.slice Aa na ca) = WA6 at *
    clear hGWA6
    refine wpAnyH_done (by kernel_rfl) ?_ _
    have hHeld := hHeld12
    rotate_left 1
    exact AllReadyH.nil
    refine AllReadyH.cons (o := ⟨some 3, _, _, _, _, _⟩) rfl (fun K hK => ?_) ?_
    have lo3 := hHeld0.1.size
    (try simp at lo3)
    go_simp
    refine hK.out _ _ (by first | exact hHeld0.alloc _ | exact (hHeld0.alloc _).drew) (fun hHeld13 => ?_)
    first | have hS3 := newK2 hHeld13 | have hS3 := newK2d hHeld13
    clear hK K
    try clear hb
    try go_frame
    generalize hGWA7 : World.alloc w (.cells #[.bool false, .slice none 0 0] 91) = WA7 at *
    clear hGWA7
    refine wpAnyH_ready (rs := [4]) (by kernel_rfl) (by simp) ?_
    refine AllReadyH.cons (o := ⟨some 12, _, _, _, _, _⟩) rfl (fun K hK => ?_) AllReadyH.nil
    go_simp
    (first | ((with_reducible refine (IL.out _).mono ?_); rintro e wl ⟨bl, Al, nl, cl, rfl, hb, zl⟩) | ((with_reducible refine (IH.out _).mono ?_); rintro e wh ⟨bh, Ah, nh, ch, rfl, hb, zh⟩) | ((with_reducible refine (AD.out _ _ _ zl zh).mono ?_); rintro e wa ⟨ba, Aa, na, ca, rfl, hb, za⟩))
    refine hK.out _ _ (hHeld13.next hb) (fun hHeld14 => ?_)
    replace hS3 := hS3.next hb
    clear hK K
    try clear hb
    try go_frame
    refine wpAnyH_ready (rs := [9]) (by kernel_rfl) (by simp) ?_
    refine AllReadyH.cons (o := ⟨some 17, _, _, _, _, _⟩) rfl (fun K hK => ?_) AllReadyH.nil
    go_simp
    (first | ((with_reducible refine (IL.out _).mono ?_); rintro e wl ⟨bl, Al, nl, cl, rfl, hb, zl⟩) | ((with_reducible refine (IH.out _).mono ?_); rintro e wh ⟨bh, Ah, nh, ch, rfl, hb, zh⟩) | ((with_reducible refine (AD.out _ _ _ zl zh).mono ?_); rintro e wa ⟨ba, Aa, na, ca, rfl, hb, za⟩))
    refine hK.out _ _ (hHeld14.next hb) (fun hHeld15 => ?_)
    replace hS3 := hS3.next hb
    (try replace zl := zl.below hb)
    clear hK K
    try clear hb
    try go_frame
    refine wpAnyH_ready (rs := [10]) (by kernel_rfl) (by simp) ?_
    refine AllReadyH.cons (o := ⟨some 18, _, _, _, _, _⟩) rfl (fun K hK => ?_) AllReadyH.nil
    go_simp
    (first | ((with_reducible refine (IL.out _).mono ?_); rintro e wl ⟨bl, Al, nl, cl, rfl, hb, zl⟩) | ((with_reducible refine (IH.out _).mono ?_); rintro e wh ⟨bh, Ah, nh, ch, rfl, hb, zh⟩) | ((with_reducible refine (AD.out _ _ _ zl zh).mono ?_); rintro e wa ⟨ba, Aa, na, ca, rfl, hb, za⟩))
    refine hK.out _ _ (hHeld15.next hb) (fun hHeld16 => ?_)
    replace hS3 := hS3.next hb
    (try replace zl := zl.below hb)
    (try replace zh := zh.below hb)
    clear hK K
    try clear hb
    try go_frame
    refine wpAnyH_ready (rs := [12]) (by kernel_rfl) (by simp) ?_
    refine AllReadyH.cons (o := ⟨none, _, _, _, _, _⟩) rfl (fun K hK => ?_) AllReadyH.nil
    obtain ⟨⟨s3z0, s3c0, s3f0⟩, ⟨s3z1, s3c1, s3f1⟩, _⟩ := hS3.2
    go_simp
    refine hK.out _ _ (by (repeat (first | (with_reducible exact hHeld16) | (refine Keeps.set ?_ (by simp <;> omega) (by simp <;> omega) _)))) (fun hHeld17 => ?_)
    (try replace za := za.store2 hHeld17 s3c0 s3c1)
    replace hS3 := hHeld17.add2 s3z0 s3c0 s3f0 s3c1 s3f1
    clear s3z0 s3c0 s3f0 s3z1 s3c1 s3f1
    clear hK K
    try clear hb
    try go_frame
    generalize hGWA8 : World.setCell (World.setCell wa ⟨w.heap.size, 0, none⟩ (.bool ba)) ⟨w.heap.size, 1, none⟩ (.slice Aa na ca) = WA8 at *
    clear hGWA8
    refine wpAnyH_done (by kernel_rfl) ?_ _
    have hHeld := hHeld17
    rotate_left 1
    exact AllReadyH.nil
    all_goals
      go_wp2_with fail
      go_meet
      case rel => exact ⟨_, _, _, _, _, rfl, Lib.hid za, hS3.1, hS3.2.1, hS3.2.2.1, trivial⟩
  case rest =>
    obtain ⟨g, b, A, m, c', rfl, HZ, hK⟩ := hcut
    have HK := Lib.hid hK
    obtain ⟨⟨kz0, kc0, kf0⟩, ⟨kz1, kc1, kf1⟩, _⟩ := hK.2
    clear IL IH AD HP
    go_upto_region 2 with (fail)
    go_cut [4] (fun s4 wx => ∃ (g : Nat) (b : Bool) (A : Option Addr) (n c : Nat), s4 = .pointer (some ⟨g, 0, none⟩) ∧ Hid (NumZ wx (.agg #[.bool b, .slice A n c]) q) ∧ Hid (Below wc.heap.size wc wx) ∧ Cells [(g, 0, .bool b), (g, 1, .slice A n c)] wx)
    case first =>
      refine region_keeps (w0 := wc) (L := [(g, 0, .bool b), (g, 1, .slice A m c')]) (by kernel_rfl) ⟨Below.refl _ _, HK.out.2⟩ (fun hHeld0 => ?_)
      refine wpAnyH_take (i := 0) (oi := ⟨some 20, _, _, _, _, _⟩) (v := ?_) rfl (by kernel_rfl) (by kernel_rfl) (by kernel_rfl) (fun _ _ _ h => h) (Or.inl ⟨by rfl, ?_⟩) (by assumption) ?_
      rotate_left
      · intro wq hSw; obtain ⟨⟨qz0, qc0, qf0⟩, ⟨qz1, qc1, qf1⟩, _⟩ := hSw.2; go_simp; (try with_reducible rfl)
      try go_frame
      refine wpAnyH_ready (rs := [1, 6, 7]) (by kernel_rfl) (by simp) ?_
      refine AllReadyH.cons (o := ⟨some 21, _, _, _, _, _⟩) rfl (fun K hK => ?_) ?_
      go_simp
      (first | ((with_reducible refine (I2.out _).mono ?_); rintro e wt ⟨bt, At, nt, ct, rfl, hb, zt⟩) | ((with_reducible refine (DV.out _ _ _ (HZ.out.below (bel9 (L := [(g, 0, .bool b), (g, 1, .slice A m c')]) (by assumption))) zt).mono ?_); rintro e wd ⟨bq, Aq, nq, cq, br, Ar, nr, cr, rfl, hb, zq, zr⟩))
      refine hK.out _ _ (hHeld0.next hb) (fun hHeld1 => ?_)
      clear hK K
      try clear hb
      try go_frame
      refine wpAnyH_ready (rs := [2, 6, 7]) (by kernel_rfl) (by simp) ?_
      refine AllReadyH.cons (o := ⟨some 22, _, _, _, _, _⟩) rfl (fun K hK => ?_) ?_
      go_simp
      (first | ((with_reducible refine (I2.out _).mono ?_); rintro e wt ⟨bt, At, nt, ct, rfl, hb, zt⟩) | ((with_reducible refine (DV.out _ _ _ (HZ.out.below (bel9 (L := [(g, 0, .bool b), (g, 1, .slice A m c')]) (by assumption))) zt).mono ?_); rintro e wd ⟨bq, Aq, nq, cq, br, Ar, nr, cr, rfl, hb, zq, zr⟩))
      refine hK.out _ _ (hHeld1.next hb) (fun hHeld2 => ?_)
      (try replace zt := zt.below hb)
      clear hK K
      try clear hb
      try go_frame
      refine wpAnyH_take (i := 3) (oi := ⟨some 19, _, _, _, _, _⟩) (v := ?_) rfl (by kernel_rfl) (by kernel_rfl) (by kernel_rfl) (fun _ _ _ h => h) (Or.inl ⟨by rfl, ?_⟩) (by assumption) ?_
      rotate_left
      · intro wq hSw; go_simp; (try with_reducible rfl)
      try go_frame
      refine wpAnyH_take (i := 4) (oi := ⟨some 23, _, _, _, _, _⟩) (v := ?_) rfl (by kernel_rfl) (by kernel_rfl) (by kernel_rfl) (fun _ _ _ h => h) (Or.inl ⟨by rfl, ?_⟩) (by assumption) ?_
      rotate_left
      · intro wq hSw; go_simp; (try with_reducible rfl)
      try go_frame
      refine wpAnyH_take (i := 5) (oi := ⟨some 24, _, _, _, _, _⟩) (v := ?_) rfl (by kernel_rfl) (by kernel_rfl) (by kernel_rfl) (fun _ _ _ h => h) (Or.inl ⟨by rfl, ?_⟩) (by assumption) ?_
      rotate_left
      · intro wq hSw; go_simp; (try with_reducible rfl)
      try go_frame
      refine wpAnyH_ready (rs := [6, 7]) (by kernel_rfl) (by simp) ?_
      refine AllReadyH.cons (o := ⟨some 4, _, _, _, _, _⟩) rfl (fun K hK => ?_) ?_
      have lo4 := hHeld2.1.size
      obtain ⟨⟨a4_z0, a4_c0, a4_f0⟩, ⟨a4_z1, a4_c1, a4_f1⟩, _⟩ := hHeld2.2
      (try simp at lo4); (try simp at a4_z0); (try simp at a4_z1)
      go_simp
      refine hK.out _ _ (by first | exact hHeld2.alloc _ | exact (hHeld2.alloc _).drew) (fun hHeld3 => ?_)
      (try replace zq := zq.alloc2 hHeld3)
      first | have hS4 := newK2 hHeld3 | have hS4 := newK2d hHeld3
      clear hK K
      try clear hb
      try go_frame
      generalize hGWA1 : World.alloc wd (.cells #[.bool false, .slice none 0 0] 91) = WA1 at *
      clear hGWA1
      refine wpAnyH_ready (rs := [7]) (by kernel_rfl) (by simp) ?_
      refine AllReadyH.cons (o := ⟨some 5, _, _, _, _, _⟩) rfl (fun K hK => ?_) AllReadyH.nil
      have hne4_5 := hS4.2.1.1
      have lo5 := hHeld3.1.size
      obtain ⟨⟨a5_z0, a5_c0, a5_f0⟩, ⟨a5_z1, a5_c1, a5_f1⟩, _⟩ := hHeld3.2
      (try simp at lo5); (try simp at hne4_5); (try simp at a5_z0); (try simp at a5_z1)
      go_simp
      refine hK.out _ _ (by first | exact hHeld3.alloc _ | exact (hHeld3.alloc _).drew) (fun hHeld4 => ?_)
      first | replace hS4 := hS4.alloc2e hHeld4 | replace hS4 := hS4.alloc2 hHeld4
      (try replace zq := zq.alloc2 hHeld4)
      first | have hS5 := newK2 hHeld4 | have hS5 := newK2d hHeld4
      clear hK K
      try clear hb
      try go_frame
      generalize hGWA2 : World.alloc WA1 (.cells #[.bool false, .slice none 0 0] 91) = WA2 at *
      clear hGWA2
      refine wpAnyH_ready (rs := [8]) (by kernel_rfl) (by simp) ?_
      refine AllReadyH.cons (o := ⟨none, _, _, _, _, _⟩) rfl (fun K hK => ?_) AllReadyH.nil
      obtain ⟨⟨s4z0, s4c0, s4f0⟩, ⟨s4z1, s4c1, s4f1⟩, _⟩ := hS4.2
      go_simp
      refine hK.out _ _ (by (repeat (first | (with_reducible exact hHeld4) | (refine Keeps.set ?_ (by simp <;> omega) (by simp <;> omega) _)))) (fun hHeld5 => ?_)
      replace hS5 := hS5.mv2 hHeld5 (by first | omega | (simp <;> omega)) (by simp <;> omega)
      (try replace zq := zq.store2 hHeld5 s4c0 s4c1)
      replace hS4 := hHeld5.add2 s4z0 s4c0 s4f0 s4c1 s4f1
      clear s4z0 s4c0 s4f0 s4z1 s4c1 s4f1
      clear hK K
      try clear hb
      try go_frame
      generalize hGWA3 : World.setCell (World.setCell WA2 ⟨wd.heap.size, 0, none⟩ (.bool bq)) ⟨wd.heap.size, 1, none⟩ (.slice Aq nq cq) = WA3 at *
      clear hGWA3
      refine wpAnyH_ready (rs := [9]) (by kernel_rfl) (by simp) ?_
      refine AllReadyH.cons (o := ⟨none, _, _, _, _, _⟩) rfl (fun K hK => ?_) AllReadyH.nil
      obtain ⟨⟨s5z0, s5c0, s5f0⟩, ⟨s5z1, s5c1, s5f1⟩, _⟩ := hS5.2
      go_simp
      refine hK.out _ _ (by (repeat (first | (with_reducible exact hHeld5) | (refine Keeps.set ?_ (by simp <;> omega) (by simp <;> omega) _)))) (fun hHeld6 => ?_)
      replace hS4 := hS4.mv2 hHeld6 (by first | omega | (simp <;> omega)) (by simp <;> omega)
      (try replace zq := zq.store2 hHeld6 s5c0 s5c1)
      replace hS5 := hHeld6.add2 s5z0 s5c0 s5f0 s5c1 s5f1
      clear s5z0 s5c0 s5f0 s5z1 s5c1 s5f1
      clear hK K
      try clear hb
      try go_frame
      generalize hGWA4 : World.setCell (World.setCell WA3 ⟨WA1.heap.size, 0, none⟩ (.bool br)) ⟨WA1.heap.size, 1, none⟩ (.slice Ar nr cr) = WA4 at *
      clear hGWA4
      refine wpAnyH_done (by kernel_rfl) ?_ _
      have hHeld := hHeld6
      rotate_left 1
      refine AllReadyH.cons (o := ⟨some 5, _, _, _, _, _⟩) rfl (fun K hK => ?_) ?_
      have lo5 := hHeld2.1.size
      obtain ⟨⟨a5_z0, a5_c0, a5_f0⟩, ⟨a5_z1, a5_c1, a5_f1⟩, _⟩ := hHeld2.2
      (try simp at lo5); (try simp at a5_z0); (try simp at a5_z1)
      go_simp
      refine hK.out _ _ (by first | exact hHeld2.alloc _ | exact (hHeld2.alloc _).drew) (fun hHeld7 => ?_)
      (try replace zq := zq.alloc2 hHeld7)
      first | have hS5 := newK2 hHeld7 | have hS5 := newK2d hHeld7
      clear hK K
      try clear hb
      try go_frame
      generalize hGWA5 : World.alloc wd (.cells #[.bool false, .slice none 0 0] 91) = WA5 at *
      clear hGWA5
      refine wpAnyH_ready (rs := [6]) (by kernel_rfl) (by simp) ?_
      refine AllReadyH.cons (o := ⟨some 4, _, _, _, _, _⟩) rfl (fun K hK => ?_) AllReadyH.nil
      have hne5_4 := hS5.2.1.1
      have lo4 := hHeld7.1.size
      obtain ⟨⟨a4_z0, a4_c0, a4_f0⟩, ⟨a4_z1, a4_c1, a4_f1⟩, _⟩ := hHeld7.2
      (try simp at lo4); (try simp at hne5_4); (try simp at a4_z0); (try simp at a4_z1)
      go_simp
      refine hK.out _ _ (by first | exact hHeld7.alloc _ | exact (hHeld7.alloc _).drew) (fun hHeld8 => ?_)
      first | replace hS5 := hS5.alloc2e hHeld8 | replace hS5 := hS5.alloc2 hHeld8
      (try replace zq := zq.alloc2 hHeld8)
      first | have hS4 := newK2 hHeld8 | have hS4 := newK2d hHeld8
      clear hK K
      try clear hb
      try go_frame
      generalize hGWA6 : World.alloc WA5 (.cells #[.bool false, .slice none 0 0] 91) = WA6 at *
      clear hGWA6
      refine wpAnyH_ready (rs := [8]) (by kernel_rfl) (by simp) ?_
      refine AllReadyH.cons (o := ⟨none, _, _, _, _, _⟩) rfl (fun K hK => ?_) AllReadyH.nil
      obtain ⟨⟨s4z0, s4c0, s4f0⟩, ⟨s4z1, s4c1, s4f1⟩, _⟩ := hS4.2
      go_simp
      refine hK.out _ _ (by (repeat (first | (with_reducible exact hHeld8) | (refine Keeps.set ?_ (by simp <;> omega) (by simp <;> omega) _)))) (fun hHeld9 => ?_)
      replace hS5 := hS5.mv2 hHeld9 (by first | omega | (simp <;> omega)) (by simp <;> omega)
      (try replace zq := zq.store2 hHeld9 s4c0 s4c1)
      replace hS4 := hHeld9.add2 s4z0 s4c0 s4f0 s4c1 s4f1
      clear s4z0 s4c0 s4f0 s4z1 s4c1 s4f1
      clear hK K
      try clear hb
      try go_frame
      generalize hGWA7 : World.setCell (World.setCell WA6 ⟨WA5.heap.size, 0, none⟩ (.bool bq)) ⟨WA5.heap.size, 1, none⟩ (.slice Aq nq cq) = WA7 at *
      clear hGWA7
      refine wpAnyH_ready (rs := [9]) (by kernel_rfl) (by simp) ?_
      refine AllReadyH.cons (o := ⟨none, _, _, _, _, _⟩) rfl (fun K hK => ?_) AllReadyH.nil
      obtain ⟨⟨s5z0, s5c0, s5f0⟩, ⟨s5z1, s5c1, s5f1⟩, _⟩ := hS5.2
      go_simp
      refine hK.out _ _ (by (repeat (first | (with_reducible exact hHeld9) | (refine Keeps.set ?_ (by simp <;> omega) (by simp <;> omega) _)))) (fun hHeld10 => ?_)
      replace hS4 := hS4.mv2 hHeld10 (by first | omega | (simp <;> omega)) (by simp <;> omega)
      (try replace zq := zq.store2 hHeld10 s5c0 s5c1)
      replace hS5 := hHeld10.add2 s5z0 s5c0 s5f0 s5c1 s5f1
      clear s5z0 s5c0 s5f0 s5z1 s5c1 s5f1
      clear hK K
      try clear hb
      try go_frame
      generalize hGWA8 : World.setCell (World.setCell WA7 ⟨wd.heap.size, 0, none⟩ (.bool br)) ⟨wd.heap.size, 1, none⟩ (.slice Ar nr cr) = WA8 at *
      clear hGWA8
      refine wpAnyH_done (by kernel_rfl) ?_ _
      have hHeld := hHeld10
      rotate_left 1
      exact AllReadyH.nil
      refine AllReadyH.cons (o := ⟨some 4, _, _, _, _, _⟩) rfl (fun K hK => ?_) ?_
      have lo4 := hHeld1.1.size
      obtain ⟨⟨a4_z0, a4_c0, a4_f0⟩, ⟨a4_z1, a4_c1, a4_f1⟩, _⟩ := hHeld1.2
      (try simp at lo4); (try simp at a4_z0); (try simp at a4_z1)
      go_simp
      refine hK.out _ _ (by first | exact hHeld1.alloc _ | exact (hHeld1.alloc _).drew) (fun hHeld11 => ?_)
      (try replace zt := zt.alloc2 hHeld11)
      first | have hS4 := newK2 hHeld11 | have hS4 := newK2d hHeld11
      clear hK K
      try clear hb
      try go_frame
      generalize hGWA9 : World.alloc wt (.cells #[.bool false, .slice none 0 0] 91) = WA9 at *
      clear hGWA9
      refine wpAnyH_ready (rs := [2, 7]) (by kernel_rfl) (by simp) ?_
      refine AllReadyH.cons (o := ⟨some 22, _, _, _, _, _⟩) rfl (fun K hK => ?_) ?_
      go_simp
      (first | ((with_reducible refine (I2.out _).mono ?_); rintro e wt ⟨bt, At, nt, ct, rfl, hb, zt⟩) | ((with_reducible refine (DV.out _ _ _ (HZ.out.below (bel9 (L := [(g, 0, .bool b), (g, 1, .slice A m c')]) (by assumption))) zt).mono ?_); rintro e wd ⟨bq, Aq, nq, cq, br, Ar, nr, cr, rfl, hb, zq, zr⟩))
      refine hK.out _ _ (hHeld11.next hb) (fun hHeld12 => ?_)
      replace hS4 := hS4.next hb
      (try replace zt := zt.below hb)
      clear hK K
      try clear hb
      try go_frame
      refine wpAnyH_take (i := 3) (oi := ⟨some 19, _, _, _, _, _⟩) (v := ?_) rfl (by kernel_rfl) (by kernel_rfl) (by kernel_rfl) (fun _ _ _ h => h) (Or.inl ⟨by rfl, ?_⟩) (by assumption) ?_
      rotate_left
      · intro wq hSw; go_simp; (try with_reducible rfl)
      try go_frame
      refine wpAnyH_take (i := 4) (oi := ⟨some 23, _, _, _, _, _⟩) (v := ?_) rfl (by kernel_rfl) (by kernel_rfl) (by kernel_rfl) (fun _ _ _ h => h) (Or.inl ⟨by rfl, ?_⟩) (by assumption) ?_
      rotate_left
      · intro wq hSw; go_simp; (try with_reducible rfl)
      try go_frame
      refine wpAnyH_take (i := 5) (oi := ⟨some 24, _, _, _, _, _⟩) (v := ?_) rfl (by kernel_rfl) (by kernel_rfl) (by kernel_rfl) (fun _ _ _ h => h) (Or.inl ⟨by rfl, ?_⟩) (by assumption) ?_
      rotate_left
      · intro wq hSw; go_simp; (try with_reducible rfl)
      try go_frame
      refine wpAnyH_ready (rs := [7]) (by kernel_rfl) (by simp) ?_
      refine AllReadyH.cons (o := ⟨some 5, _, _, _, _, _⟩) rfl (fun K hK => ?_) AllReadyH.nil
      have hne4_5 := hS4.2.1.1
      have lo5 := hHeld12.1.size
      obtain ⟨⟨a5_z0, a5_c0, a5_f0⟩, ⟨a5_z1, a5_c1, a5_f1⟩, _⟩ := hHeld12.2
      (try simp at lo5); (try simp at hne4_5); (try simp at a5_z0); (try simp at a5_z1)
      go_simp
      refine hK.out _ _ (by first | exact hHeld12.alloc _ | exact (hHeld12.alloc _).drew) (fun hHeld13 => ?_)
      first | replace hS4 := hS4.alloc2e hHeld13 | replace hS4 := hS4.alloc2 hHeld13
      (try replace zq := zq.alloc2 hHeld13)
      first | have hS5 := newK2 hHeld13 | have hS5 := newK2d hHeld13
      clear hK K
      try clear hb
      try go_frame
      generalize hGWA10 : World.alloc wd (.cells #[.bool false, .slice none 0 0] 91) = WA10 at *
      clear hGWA10
      refine wpAnyH_ready (rs := [8]) (by kernel_rfl) (by simp) ?_
      refine AllReadyH.cons (o := ⟨none, _, _, _, _, _⟩) rfl (fun K hK => ?_) AllReadyH.nil
      obtain ⟨⟨s4z0, s4c0, s4f0⟩, ⟨s4z1, s4c1, s4f1⟩, _⟩ := hS4.2
      go_simp
      refine hK.out _ _ (by (repeat (first | (with_reducible exact hHeld13) | (refine Keeps.set ?_ (by simp <;> omega) (by simp <;> omega) _)))) (fun hHeld14 => ?_)
      replace hS5 := hS5.mv2 hHeld14 (by first | omega | (simp <;> omega)) (by simp <;> omega)
      (try replace zq := zq.store2 hHeld14 s4c0 s4c1)
      replace hS4 := hHeld14.add2 s4z0 s4c0 s4f0 s4c1 s4f1
      clear s4z0 s4c0 s4f0 s4z1 s4c1 s4f1
      clear hK K
      try clear hb
      try go_frame
      generalize hGWA11 : World.setCell (World.setCell WA10 ⟨wt.heap.size, 0, none⟩ (.bool bq)) ⟨wt.heap.size, 1, none⟩ (.slice Aq nq cq) = WA11 at *
      clear hGWA11
      refine wpAnyH_ready (rs := [9]) (by kernel_rfl) (by simp) ?_
      refine AllReadyH.cons (o := ⟨none, _, _, _, _, _⟩) rfl (fun K hK => ?_) AllReadyH.nil
      obtain ⟨⟨s5z0, s5c0, s5f0⟩, ⟨s5z1, s5c1, s5f1⟩, _⟩ := hS5.2
      go_simp
      refine hK.out _ _ (by (repeat (first | (with_reducible exact hHeld14) | (refine Keeps.set ?_ (by simp <;> omega) (by simp <;> omega) _)))) (fun hHeld15 => ?_)
      replace hS4 := hS4.mv2 hHeld15 (by first | omega | (simp <;> omega)) (by simp <;> omega)
      (try replace zq := zq.store2 hHeld15 s5c0 s5c1)
      replace hS5 := hHeld15.add2 s5z0 s5c0 s5f0 s5c1 s5f1
      clear s5z0 s5c0 s5f0 s5z1 s5c1 s5f1
      clear hK K
      try clear hb
      try go_frame
      generalize hGWA12 : World.setCell (World.setCell WA11 ⟨wd.heap.size, 0, none⟩ (.bool br)) ⟨wd.heap.size, 1, none⟩ (.slice Ar nr cr) = WA12 at *
      clear hGWA12
      refine wpAnyH_done (by kernel_rfl) ?_ _
      have hHeld := hHeld15
      rotate_left 1
      refine AllReadyH.cons (o := ⟨some 5, _, _, _, _, _⟩) rfl (fun K hK => ?_) ?_
      have hne4_5 := hS4.2.1.1
      have lo5 := hHeld11.1.size
      obtain ⟨⟨a5_z0, a5_c0, a5_f0⟩, ⟨a5_z1, a5_c1, a5_f1⟩, _⟩ := hHeld11.2
      (try simp at lo5); (try simp at hne4_5); (try simp at a5_z0); (try simp at a5_z1)
      go_simp
      refine hK.out _ _ (by first | exact hHeld11.alloc _ | exact (hHeld11.alloc _).drew) (fun hHeld16 => ?_)
      first | replace hS4 := hS4.alloc2e hHeld16 | replace hS4 := hS4.alloc2 hHeld16
      (try replace zt := zt.alloc2 hHeld16)
      first | have hS5 := newK2 hHeld16 | have hS5 := newK2d hHeld16
      clear hK K
      try clear hb
      try go_frame
      generalize hGWA13 : World.alloc WA9 (.cells #[.bool false, .slice none 0 0] 91) = WA13 at *
      clear hGWA13
      refine wpAnyH_ready (rs := [2]) (by kernel_rfl) (by simp) ?_
      refine AllReadyH.cons (o := ⟨some 22, _, _, _, _, _⟩) rfl (fun K hK => ?_) AllReadyH.nil
      go_simp
      (first | ((with_reducible refine (I2.out _).mono ?_); rintro e wt ⟨bt, At, nt, ct, rfl, hb, zt⟩) | ((with_reducible refine (DV.out _ _ _ (HZ.out.below (bel9 (L := [(g, 0, .bool b), (g, 1, .slice A m c')]) (by assumption))) zt).mono ?_); rintro e wd ⟨bq, Aq, nq, cq, br, Ar, nr, cr, rfl, hb, zq, zr⟩))
      refine hK.out _ _ (hHeld16.next hb) (fun hHeld17 => ?_)
      replace hS4 := hS4.next hb
      replace hS5 := hS5.next hb
      (try replace zt := zt.below hb)
      clear hK K
      try clear hb
      try go_frame
      refine wpAnyH_take (i := 3) (oi := ⟨some 19, _, _, _, _, _⟩) (v := ?_) rfl (by kernel_rfl) (by kernel_rfl) (by kernel_rfl) (fun _ _ _ h => h) (Or.inl ⟨by rfl, ?_⟩) (by assumption) ?_
      rotate_left
      · intro wq hSw; go_simp; (try with_reducible rfl)
      try go_frame
      refine wpAnyH_take (i := 4) (oi := ⟨some 23, _, _, _, _, _⟩) (v := ?_) rfl (by kernel_rfl) (by kernel_rfl) (by kernel_rfl) (fun _ _ _ h => h) (Or.inl ⟨by rfl, ?_⟩) (by assumption) ?_
      rotate_left
      · intro wq hSw; go_simp; (try with_reducible rfl)
      try go_frame
      refine wpAnyH_take (i := 5) (oi := ⟨some 24, _, _, _, _, _⟩) (v := ?_) rfl (by kernel_rfl) (by kernel_rfl) (by kernel_rfl) (fun _ _ _ h => h) (Or.inl ⟨by rfl, ?_⟩) (by assumption) ?_
      rotate_left
      · intro wq hSw; go_simp; (try with_reducible rfl)
      try go_frame
      refine wpAnyH_ready (rs := [8]) (by kernel_rfl) (by simp) ?_
      refine AllReadyH.cons (o := ⟨none, _, _, _, _, _⟩) rfl (fun K hK => ?_) AllReadyH.nil
      obtain ⟨⟨s4z0, s4c0, s4f0⟩, ⟨s4z1, s4c1, s4f1⟩, _⟩ := hS4.2
      go_simp
      refine hK.out _ _ (by (repeat (first | (with_reducible exact hHeld17) | (refine Keeps.set ?_ (by simp <;> omega) (by simp <;> omega) _)))) (fun hHeld18 => ?_)
      replace hS5 := hS5.mv2 hHeld18 (by first | omega | (simp <;> omega)) (by simp <;> omega)
      (try replace zq := zq.store2 hHeld18 s4c0 s4c1)
      replace hS4 := hHeld18.add2 s4z0 s4c0 s4f0 s4c1 s4f1
      clear s4z0 s4c0 s4f0 s4z1 s4c1 s4f1
      clear hK K
      try clear hb
      try go_frame
      generalize hGWA14 : World.setCell (World.setCell wd ⟨wt.heap.size, 0, none⟩ (.bool bq)) ⟨wt.heap.size, 1, none⟩ (.slice Aq nq cq) = WA14 at *
      clear hGWA14
      refine wpAnyH_ready (rs := [9]) (by kernel_rfl) (by simp) ?_
      refine AllReadyH.cons (o := ⟨none, _, _, _, _, _⟩) rfl (fun K hK => ?_) AllReadyH.nil
      obtain ⟨⟨s5z0, s5c0, s5f0⟩, ⟨s5z1, s5c1, s5f1⟩, _⟩ := hS5.2
      go_simp
      refine hK.out _ _ (by (repeat (first | (with_reducible exact hHeld18) | (refine Keeps.set ?_ (by simp <;> omega) (by simp <;> omega) _)))) (fun hHeld19 => ?_)
      replace hS4 := hS4.mv2 hHeld19 (by first | omega | (simp <;> omega)) (by simp <;> omega)
      (try replace zq := zq.store2 hHeld19 s5c0 s5c1)
      replace hS5 := hHeld19.add2 s5z0 s5c0 s5f0 s5c1 s5f1
      clear s5z0 s5c0 s5f0 s5z1 s5c1 s5f1
      clear hK K
      try clear hb
      try go_frame
      generalize hGWA15 : World.setCell (World.setCell WA14 ⟨WA9.heap.size, 0, none⟩ (.bool br)) ⟨WA9.heap.size, 1, none⟩ (.slice Ar nr cr) = WA15 at *
      clear hGWA15
      refine wpAnyH_done (by kernel_rfl) ?_ _
      have hHeld := hHeld19
      rotate_left 1
      exact AllReadyH.nil
      refine AllReadyH.cons (o := ⟨some 5, _, _, _, _, _⟩) rfl (fun K hK => ?_) ?_
      have lo5 := hHeld1.1.size
      obtain ⟨⟨a5_z0, a5_c0, a5_f0⟩, ⟨a5_z1, a5_c1, a5_f1⟩, _⟩ := hHeld1.2
      (try simp at lo5); (try simp at a5_z0); (try simp at a5_z1)
      go_simp
      refine hK.out _ _ (by first | exact hHeld1.alloc _ | exact (hHeld1.alloc _).drew) (fun hHeld20 => ?_)
      (try replace zt := zt.alloc2 hHeld20)
      first | have hS5 := newK2 hHeld20 | have hS5 := newK2d hHeld20
      clear hK K
      try clear hb
      try go_frame
      generalize hGWA16 : World.alloc wt (.cells #[.bool false, .slice none 0 0] 91) = WA16 at *
      clear hGWA16
      refine wpAnyH_ready (rs := [2, 6]) (by kernel_rfl) (by simp) ?_
      refine AllReadyH.cons (o := ⟨some 22, _, _, _, _, _⟩) rfl (fun K hK => ?_) ?_
      go_simp
      (first | ((with_reducible refine (I2.out _).mono ?_); rintro e wt ⟨bt, At, nt, ct, rfl, hb, zt⟩) | ((with_reducible refine (DV.out _ _ _ (HZ.out.below (bel9 (L := [(g, 0, .bool b), (g, 1, .slice A m c')]) (by assumption))) zt).mono ?_); rintro e wd ⟨bq, Aq, nq, cq, br, Ar, nr, cr, rfl, hb, zq, zr⟩))
      refine hK.out _ _ (hHeld20.next hb) (fun hHeld21 => ?_)
      replace hS5 := hS5.next hb
      (try replace zt := zt.below hb)
      clear hK K
      try clear hb
      try go_frame
      refine wpAnyH_take (i := 3) (oi := ⟨some 19, _, _, _, _, _⟩) (v := ?_) rfl (by kernel_rfl) (by kernel_rfl) (by kernel_rfl) (fun _ _ _ h => h) (Or.inl ⟨by rfl, ?_⟩) (by assumption) ?_
      rotate_left
      · intro wq hSw; go_simp; (try with_reducible rfl)
      try go_frame
      refine wpAnyH_take (i := 4) (oi := ⟨some 23, _, _, _, _, _⟩) (v := ?_) rfl (by kernel_rfl) (by kernel_rfl) (by kernel_rfl) (fun _ _ _ h => h) (Or.inl ⟨by rfl, ?_⟩) (by assumption) ?_
      rotate_left
      · intro wq hSw; go_simp; (try with_reducible rfl)
      try go_frame
      refine wpAnyH_take (i := 5) (oi := ⟨some 24, _, _, _, _, _⟩) (v := ?_) rfl (by kernel_rfl) (by kernel_rfl) (by kernel_rfl) (fun _ _ _ h => h) (Or.inl ⟨by rfl, ?_⟩) (by assumption) ?_
      rotate_left
      · intro wq hSw; go_simp; (try with_reducible rfl)
      try go_frame
      refine wpAnyH_ready (rs := [6]) (by kernel_rfl) (by simp) ?_
      refine AllReadyH.cons (o := ⟨some 4, _, _, _, _, _⟩) rfl (fun K hK => ?_) AllReadyH.nil
      have hne5_4 := hS5.2.1.1
      have lo4 := hHeld21.1.size
      obtain ⟨⟨a4_z0, a4_c0, a4_f0⟩, ⟨a4_z1, a4_c1, a4_f1⟩, _⟩ := hHeld21.2
      (try simp at lo4); (try simp at hne5_4); (try simp at a4_z0); (try simp at a4_z1)
      go_simp
      refine hK.out _ _ (by first | exact hHeld21.alloc _ | exact (hHeld21.alloc _).drew) (fun hHeld22 => ?_)
      first | replace hS5 := hS5.alloc2e hHeld22 | replace hS5 := hS5.alloc2 hHeld22
      (try replace zq := zq.alloc2 hHeld22)
      first | have hS4 := newK2 hHeld22 | have hS4 := newK2d hHeld22
      clear hK K
      try clear hb
      try go_frame
      generalize hGWA17 : World.alloc wd (.cells #[.bool false, .slice none 0 0] 91) = WA17 at *
      clear hGWA17
      refine wpAnyH_ready (rs := [8]) (by kernel_rfl) (by simp) ?_
      refine AllReadyH.cons (o := ⟨none, _, _, _, _, _⟩) rfl (fun K hK => ?_) AllReadyH.nil
      obtain ⟨⟨s4z0, s4c0, s4f0⟩, ⟨s4z1, s4c1, s4f1⟩, _⟩ := hS4.2
      go_simp
      refine hK.out _ _ (by (repeat (first | (with_reducible exact hHeld22) | (refine Keeps.set ?_ (by simp <;> omega) (by simp <;> omega) _)))) (fun hHeld23 => ?_)
      replace hS5 := hS5.mv2 hHeld23 (by first | omega | (simp <;> omega)) (by simp <;> omega)
      (try replace zq := zq.store2 hHeld23 s4c0 s4c1)
      replace hS4 := hHeld23.add2 s4z0 s4c0 s4f0 s4c1 s4f1
      clear s4z0 s4c0 s4f0 s4z1 s4c1 s4f1
      clear hK K
      try clear hb
      try go_frame
      generalize hGWA18 : World.setCell (World.setCell WA17 ⟨wd.heap.size, 0, none⟩ (.bool bq)) ⟨wd.heap.size, 1, none⟩ (.slice Aq nq cq) = WA18 at *
      clear hGWA18
      refine wpAnyH_ready (rs := [9]) (by kernel_rfl) (by simp) ?_
      refine AllReadyH.cons (o := ⟨none, _, _, _, _, _⟩) rfl (fun K hK => ?_) AllReadyH.nil
      obtain ⟨⟨s5z0, s5c0, s5f0⟩, ⟨s5z1, s5c1, s5f1⟩, _⟩ := hS5.2
      go_simp
      refine hK.out _ _ (by (repeat (first | (with_reducible exact hHeld23) | (refine Keeps.set ?_ (by simp <;> omega) (by simp <;> omega) _)))) (fun hHeld24 => ?_)
      replace hS4 := hS4.mv2 hHeld24 (by first | omega | (simp <;> omega)) (by simp <;> omega)
      (try replace zq := zq.store2 hHeld24 s5c0 s5c1)
      replace hS5 := hHeld24.add2 s5z0 s5c0 s5f0 s5c1 s5f1
      clear s5z0 s5c0 s5f0 s5z1 s5c1 s5f1
      clear hK K
      try clear hb
      try go_frame
      generalize hGWA19 : World.setCell (World.setCell WA18 ⟨wt.heap.size, 0, none⟩ (.bool br)) ⟨wt.heap.size, 1, none⟩ (.slice Ar nr cr) = WA19 at *
      clear hGWA19
      refine wpAnyH_done (by kernel_rfl) ?_ _
      have hHeld := hHeld24
      rotate_left 1
      refine AllReadyH.cons (o := ⟨some 4, _, _, _, _, _⟩) rfl (fun K hK => ?_) ?_
      have hne5_4 := hS5.2.1.1
      have lo4 := hHeld20.1.size
      obtain ⟨⟨a4_z0, a4_c0, a4_f0⟩, ⟨a4_z1, a4_c1, a4_f1⟩, _⟩ := hHeld20.2
      (try simp at lo4); (try simp at hne5_4); (try simp at a4_z0); (try simp at a4_z1)
      go_simp
      refine hK.out _ _ (by first | exact hHeld20.alloc _ | exact (hHeld20.alloc _).drew) (fun hHeld25 => ?_)
      first | replace hS5 := hS5.alloc2e hHeld25 | replace hS5 := hS5.alloc2 hHeld25
      (try replace zt := zt.alloc2 hHeld25)
      first | have hS4 := newK2 hHeld25 | have hS4 := newK2d hHeld25
      clear hK K
      try clear hb
      try go_frame
      generalize hGWA20 : World.alloc WA16 (.cells #[.bool false, .slice none 0 0] 91) = WA20 at *
      clear hGWA20
      refine wpAnyH_ready (rs := [2]) (by kernel_rfl) (by simp) ?_
      refine AllReadyH.cons (o := ⟨some 22, _, _, _, _, _⟩) rfl (fun K hK => ?_) AllReadyH.nil
      go_simp
      (first | ((with_reducible refine (I2.out _).mono ?_); rintro e wt ⟨bt, At, nt, ct, rfl, hb, zt⟩) | ((with_reducible refine (DV.out _ _ _ (HZ.out.below (bel9 (L := [(g, 0, .bool b), (g, 1, .slice A m c')]) (by assumption))) zt).mono ?_); rintro e wd ⟨bq, Aq, nq, cq, br, Ar, nr, cr, rfl, hb, zq, zr⟩))
      refine hK.out _ _ (hHeld25.next hb) (fun hHeld26 => ?_)
      replace hS5 := hS5.next hb
      replace hS4 := hS4.next hb
      (try replace zt := zt.below hb)
      clear hK K
      try clear hb
      try go_frame
      refine wpAnyH_take (i := 3) (oi := ⟨some 19, _, _, _, _, _⟩) (v := ?_) rfl (by kernel_rfl) (by kernel_rfl) (by kernel_rfl) (fun _ _ _ h => h) (Or.inl ⟨by rfl, ?_⟩) (by assumption) ?_
      rotate_left
      · intro wq hSw; go_simp; (try with_reducible rfl)
      try go_frame
      refine wpAnyH_take (i := 4) (oi := ⟨some 23, _, _, _, _, _⟩) (v := ?_) rfl (by kernel_rfl) (by kernel_rfl) (by kernel_rfl) (fun _ _ _ h => h) (Or.inl ⟨by rfl, ?_⟩) (by assumption) ?_
      rotate_left
      · intro wq hSw; go_simp; (try with_reducible rfl)
      try go_frame
      refine wpAnyH_take (i := 5) (oi := ⟨some 24, _, _, _, _, _⟩) (v := ?_) rfl (by kernel_rfl) (by kernel_rfl) (by kernel_rfl) (fun _ _ _ h => h) (Or.inl ⟨by rfl, ?_⟩) (by assumption) ?_
      rotate_left
      · intro wq hSw; go_simp; (try with_reducible rfl)
      try go_frame
      refine wpAnyH_ready (rs := [8]) (by kernel_rfl) (by simp) ?_
      refine AllReadyH.cons (o := ⟨none, _, _, _, _, _⟩) rfl (fun K hK => ?_) AllReadyH.nil
      obtain ⟨⟨s4z0, s4c0, s4f0⟩, ⟨s4z1, s4c1, s4f1⟩, _⟩ := hS4.2
      go_simp
      refine hK.out _ _ (by (repeat (first | (with_reducible exact hHeld26) | (refine Keeps.set ?_ (by simp <;> omega) (by simp <;> omega) _)))) (fun hHeld27 => ?_)
      replace hS5 := hS5.mv2 hHeld27 (by first | omega | (simp <;> omega)) (by simp <;> omega)
      (try replace zq := zq.store2 hHeld27 s4c0 s4c1)
      replace hS4 := hHeld27.add2 s4z0 s4c0 s4f0 s4c1 s4f1
      clear s4z0 s4c0 s4f0 s4z1 s4c1 s4f1
      clear hK K
      try clear hb
      try go_frame
      generalize hGWA21 : World.setCell (World.setCell wd ⟨WA16.heap.size, 0, none⟩ (.bool bq)) ⟨WA16.heap.size, 1, none⟩ (.slice Aq nq cq) = WA21 at *
      clear hGWA21
      refine wpAnyH_ready (rs := [9]) (by kernel_rfl) (by simp) ?_
      refine AllReadyH.cons (o := ⟨none, _, _, _, _, _⟩) rfl (fun K hK => ?_) AllReadyH.nil
      obtain ⟨⟨s5z0, s5c0, s5f0⟩, ⟨s5z1, s5c1, s5f1⟩, _⟩ := hS5.2
      go_simp
      refine hK.out _ _ (by (repeat (first | (with_reducible exact hHeld27) | (refine Keeps.set ?_ (by simp <;> omega) (by simp <;> omega) _)))) (fun hHeld28 => ?_)
      replace hS4 := hS4.mv2 hHeld28 (by first | omega | (simp <;> omega)) (by simp <;> omega)
      (try replace zq := zq.store2 hHeld28 s5c0 s5c1)
      replace hS5 := hHeld28.add2 s5z0 s5c0 s5f0 s5c1 s5f1
      clear s5z0 s5c0 s5f0 s5z1 s5c1 s5f1
      clear hK K
      try clear hb
      try go_frame
      generalize hGWA22 : World.setCell (World.setCell WA21 ⟨wt.heap.size, 0, none⟩ (.bool br)) ⟨wt.heap.size, 1, none⟩ (.slice Ar nr cr) = WA22 at *
      clear hGWA22
      refine wpAnyH_done (by kernel_rfl) ?_ _
      have hHeld := hHeld28
      rotate_left 1
      exact AllReadyH.nil
      exact AllReadyH.nil
      refine AllReadyH.cons (o := ⟨some 4, _, _, _, _, _⟩) rfl (fun K hK => ?_) ?_
      have lo4 := hHeld0.1.size
      obtain ⟨⟨a4_z0, a4_c0, a4_f0⟩, ⟨a4_z1, a4_c1, a4_f1⟩, _⟩ := hHeld0.2
      (try simp at lo4); (try simp at a4_z0); (try simp at a4_z1)
      go_simp
      refine hK.out _ _ (by first | exact hHeld0.alloc _ | exact (hHeld0.alloc _).drew) (fun hHeld29 => ?_)
      first | have hS4 := newK2 hHeld29 | have hS4 := newK2d hHeld29
      clear hK K
      try clear hb
      try go_frame
      generalize hGWA23 : World.alloc wc (.cells #[.bool false, .slice none 0 0] 91) = WA23 at *
      clear hGWA23
      refine wpAnyH_ready (rs := [1, 7]) (by kernel_rfl) (by simp) ?_
      refine AllReadyH.cons (o := ⟨some 21, _, _, _, _, _⟩) rfl (fun K hK => ?_) ?_
      go_simp
      (first | ((with_reducible refine (I2.out _).mono ?_); rintro e wt ⟨bt, At, nt, ct, rfl, hb, zt⟩) | ((with_reducible refine (DV.out _ _ _ (HZ.out.below (bel9 (L := [(g, 0, .bool b), (g, 1, .slice A m c')]) (by assumption))) zt).mono ?_); rintro e wd ⟨bq, Aq, nq, cq, br, Ar, nr, cr, rfl, hb, zq, zr⟩))
      refine hK.out _ _ (hHeld29.next hb) (fun hHeld30 => ?_)
      replace hS4 := hS4.next hb
      clear hK K
      try clear hb
      try go_frame
      refine wpAnyH_ready (rs := [2, 7]) (by kernel_rfl) (by simp) ?_
      refine AllReadyH.cons (o := ⟨some 22, _, _, _, _, _⟩) rfl (fun K hK => ?_) ?_
      go_simp
      (first | ((with_reducible refine (I2.out _).mono ?_); rintro e wt ⟨bt, At, nt, ct, rfl, hb, zt⟩) | ((with_reducible refine (DV.out _ _ _ (HZ.out.below (bel9 (L := [(g, 0, .bool b), (g, 1, .slice A m c')]) (by assumption))) zt).mono ?_); rintro e wd ⟨bq, Aq, nq, cq, br, Ar, nr, cr, rfl, hb, zq, zr⟩))
      refine hK.out _ _ (hHeld30.next hb) (fun hHeld31 => ?_)
      replace hS4 := hS4.next hb
      (try replace zt := zt.below hb)
      clear hK K
      try clear hb
      try go_frame
      refine wpAnyH_take (i := 3) (oi := ⟨some 19, _, _, _, _, _⟩) (v := ?_) rfl (by kernel_rfl) (by kernel_rfl) (by kernel_rfl) (fun _ _ _ h => h) (Or.inl ⟨by rfl, ?_⟩) (by assumption) ?_
      rotate_left
      · intro wq hSw; go_simp; (try with_reducible rfl)
      try go_frame
      refine wpAnyH_take (i := 4) (oi := ⟨some 23, _, _, _, _, _⟩) (v := ?_) rfl (by kernel_rfl) (by kernel_rfl) (by kernel_rfl) (fun _ _ _ h => h) (Or.inl ⟨by rfl, ?_⟩) (by assumption) ?_
      rotate_left
      · intro wq hSw; go_simp; (try with_reducible rfl)
      try go_frame
      refine wpAnyH_take (i := 5) (oi := ⟨some 24, _, _, _, _, _⟩) (v := ?_) rfl (by kernel_rfl) (by kernel_rfl) (by kernel_rfl) (fun _ _ _ h => h) (Or.inl ⟨by rfl, ?_⟩) (by assumption) ?_
      rotate_left
      · intro wq hSw; go_simp; (try with_reducible rfl)
      try go_frame
      refine wpAnyH_ready (rs := [7]) (by kernel_rfl) (by simp) ?_
      refine AllReadyH.cons (o := ⟨some 5, _, _, _, _, _⟩) rfl (fun K hK => ?_) AllReadyH.nil
      have hne4_5 := hS4.2.1.1
      have lo5 := hHeld31.1.size
      obtain ⟨⟨a5_z0, a5_c0, a5_f0⟩, ⟨a5_z1, a5_c1, a5_f1⟩, _⟩ := hHeld31.2
      (try simp at lo5); (try simp at hne4_5); (try simp at a5_z0); (try simp at a5_z1)
      go_simp
      refine hK.out _ _ (by first | exact hHeld31.alloc _ | exact (hHeld31.alloc _).drew) (fun hHeld32 => ?_)
      first | replace hS4 := hS4.alloc2e hHeld32 | replace hS4 := hS4.alloc2 hHeld32
      (try replace zq := zq.alloc2 hHeld32)
      first | have hS5 := newK2 hHeld32 | have hS5 := newK2d hHeld32
      clear hK K
      try clear hb
      try go_frame
      generalize hGWA24 : World.alloc wd (.cells #[.bool false, .slice none 0 0] 91) = WA24 at *
      clear hGWA24
      refine wpAnyH_ready (rs := [8]) (by kernel_rfl) (by simp) ?_
      refine AllReadyH.cons (o := ⟨none, _, _, _, _, _⟩) rfl (fun K hK => ?_) AllReadyH.nil
      obtain ⟨⟨s4z0, s4c0, s4f0⟩, ⟨s4z1, s4c1, s4f1⟩, _⟩ := hS4.2
      go_simp
      refine hK.out _ _ (by (repeat (first | (with_reducible exact hHeld32) | (refine Keeps.set ?_ (by simp <;> omega) (by simp <;> omega) _)))) (fun hHeld33 => ?_)
      replace hS5 := hS5.mv2 hHeld33 (by first | omega | (simp <;> omega)) (by simp <;> omega)
      (try replace zq := zq.store2 hHeld33 s4c0 s4c1)
      replace hS4 := hHeld33.add2 s4z0 s4c0 s4f0 s4c1 s4f1
      clear s4z0 s4c0 s4f0 s4z1 s4c1 s4f1
      clear hK K
      try clear hb
      try go_frame
      generalize hGWA25 : World.setCell (World.setCell WA24 ⟨wc.heap.size, 0, none⟩ (.bool bq)) ⟨wc.heap.size, 1, none⟩ (.slice Aq nq cq) = WA25 at *
      clear hGWA25
      refine wpAnyH_ready (rs := [9]) (by kernel_rfl) (by simp) ?_
      refine AllReadyH.cons (o := ⟨none, _, _, _, _, _⟩) rfl (fun K hK => ?_) AllReadyH.nil
      obtain ⟨⟨s5z0, s5c0, s5f0⟩, ⟨s5z1, s5c1, s5f1⟩, _⟩ := hS5.2
      go_simp
      refine hK.out _ _ (by (repeat (first | (with_reducible exact hHeld33) | (refine Keeps.set ?_ (by simp <;> omega) (by simp <;> omega) _)))) (fun hHeld34 => ?_)
      replace hS4 := hS4.mv2 hHeld34 (by first | omega | (simp <;> omega)) (by simp <;> omega)
      (try replace zq := zq.store2 hHeld34 s5c0 s5c1)
      replace hS5 := hHeld34.add2 s5z0 s5c0 s5f0 s5c1 s5f1
      clear s5z0 s5c0 s5f0 s5z1 s5c1 s5f1
      clear hK K
      try clear hb
      try go_frame
      generalize hGWA26 : World.setCell (World.setCell WA25 ⟨wd.heap.size, 0, none⟩ (.bool br)) ⟨wd.heap.size, 1, none⟩ (.slice Ar nr cr) = WA26 at *
      clear hGWA26
      refine wpAnyH_done (by kernel_rfl) ?_ _
      have hHeld := hHeld34
      rotate_left 1
      refine AllReadyH.cons (o := ⟨some 5, _, _, _, _, _⟩) rfl (fun K hK => ?_) ?_
      have hne4_5 := hS4.2.1.1
      have lo5 := hHeld30.1.size
      obtain ⟨⟨a5_z0, a5_c0, a5_f0⟩, ⟨a5_z1, a5_c1, a5_f1⟩, _⟩ := hHeld30.2
      (try simp at lo5); (try simp at hne4_5); (try simp at a5_z0); (try simp at a5_z1)
      go_simp
      refine hK.out _ _ (by first | exact hHeld30.alloc _ | exact (hHeld30.alloc _).drew) (fun hHeld35 => ?_)
      first | replace hS4 := hS4.alloc2e hHeld35 | replace hS4 := hS4.alloc2 hHeld35
      (try replace zt := zt.alloc2 hHeld35)
      first | have hS5 := newK2 hHeld35 | have hS5 := newK2d hHeld35
      clear hK K
      try clear hb
      try go_frame
      generalize hGWA27 : World.alloc wt (.cells #[.bool false, .slice none 0 0] 91) = WA27 at *
      clear hGWA27
      refine wpAnyH_ready (rs := [2]) (by kernel_rfl) (by simp) ?_
      refine AllReadyH.cons (o := ⟨some 22, _, _, _, _, _⟩) rfl (fun K hK => ?_) AllReadyH.nil
      go_simp
      (first | ((with_reducible refine (I2.out _).mono ?_); rintro e wt ⟨bt, At, nt, ct, rfl, hb, zt⟩) | ((with_reducible refine (DV.out _ _ _ (HZ.out.below (bel9 (L := [(g, 0, .bool b), (g, 1, .slice A m c')]) (by assumption))) zt).mono ?_); rintro e wd ⟨bq, Aq, nq, cq, br, Ar, nr, cr, rfl, hb, zq, zr⟩))
      refine hK.out _ _ (hHeld35.next hb) (fun hHeld36 => ?_)
      replace hS4 := hS4.next hb
      replace hS5 := hS5.next hb
      (try replace zt := zt.below hb)
      clear hK K
      try clear hb
      try go_frame
      refine wpAnyH_take (i := 3) (oi := ⟨some 19, _, _, _, _, _⟩) (v := ?_) rfl (by kernel_rfl) (by kernel_rfl) (by kernel_rfl) (fun _ _ _ h => h) (Or.inl ⟨by rfl, ?_⟩) (by assumption) ?_
      rotate_left
      · intro wq hSw; go_simp; (try with_reducible rfl)
      try go_frame
      refine wpAnyH_take (i := 4) (oi := ⟨some 23, _, _, _, _, _⟩) (v := ?_) rfl (by kernel_rfl) (by kernel_rfl) (by kernel_rfl) (fun _ _ _ h => h) (Or.inl ⟨by rfl, ?_⟩) (by assumption) ?_
      rotate_left
      · intro wq hSw; go_simp; (try with_reducible rfl)
      try go_frame
      refine wpAnyH_take (i := 5) (oi := ⟨some 24, _, _, _, _, _⟩) (v := ?_) rfl (by kernel_rfl) (by kernel_rfl) (by kernel_rfl) (fun _ _ _ h => h) (Or.inl ⟨by rfl, ?_⟩) (by assumption) ?_
      rotate_left
      · intro wq hSw; go_simp; (try with_reducible rfl)
      try go_frame
      refine wpAnyH_ready (rs := [8]) (by kernel_rfl) (by simp) ?_
      refine AllReadyH.cons (o := ⟨none, _, _, _, _, _⟩) rfl (fun K hK => ?_) AllReadyH.nil
      obtain ⟨⟨s4z0, s4c0, s4f0⟩, ⟨s4z1, s4c1, s4f1⟩, _⟩ := hS4.2
      go_simp
      refine hK.out _ _ (by (repeat (first | (with_reducible exact hHeld36) | (refine Keeps.set ?_ (by simp <;> omega) (by simp <;> omega) _)))) (fun hHeld37 => ?_)
      replace hS5 := hS5.mv2 hHeld37 (by first | omega | (simp <;> omega)) (by simp <;> omega)
      (try replace zq := zq.store2 hHeld37 s4c0 s4c1)
      replace hS4 := hHeld37.add2 s4z0 s4c0 s4f0 s4c1 s4f1
      clear s4z0 s4c0 s4f0 s4z1 s4c1 s4f1
      clear hK K
      try clear hb
      try go_frame
      generalize hGWA28 : World.setCell (World.setCell wd ⟨wc.heap.size, 0, none⟩ (.bool bq)) ⟨wc.heap.size, 1, none⟩ (.slice Aq nq cq) = WA28 at *
      clear hGWA28
      refine wpAnyH_ready (rs := [9]) (by kernel_rfl) (by simp) ?_
      refine AllReadyH.cons (o := ⟨none, _, _, _, _, _⟩) rfl (fun K hK => ?_) AllReadyH.nil
      obtain ⟨⟨s5z0, s5c0, s5f0⟩, ⟨s5z1, s5c1, s5f1⟩, _⟩ := hS5.2
      go_simp
      refine hK.out _ _ (by (repeat (first | (with_reducible exact hHeld37) | (refine Keeps.set ?_ (by simp <;> omega) (by simp <;> omega) _)))) (fun hHeld38 => ?_)
      replace hS4 := hS4.mv2 hHeld38 (by first | omega | (simp <;> omega)) (by simp <;> omega)
      (try replace zq := zq.store2 hHeld38 s5c0 s5c1)
      replace hS5 := hHeld38.add2 s5z0 s5c0 s5f0 s5c1 s5f1
      clear s5z0 s5c0 s5f0 s5z1 s5c1 s5f1
      clear hK K
      try clear hb
      try go_frame
      generalize hGWA29 : World.setCell (World.setCell WA28 ⟨wt.heap.size, 0, none⟩ (.bool br)) ⟨wt.heap.size, 1, none⟩ (.slice Ar nr cr) = WA29 at *
      clear hGWA29
      refine wpAnyH_done (by kernel_rfl) ?_ _
      have hHeld := hHeld38
      rotate_left 1
      exact AllReadyH.nil
      refine AllReadyH.cons (o := ⟨some 5, _, _, _, _, _⟩) rfl (fun K hK => ?_) ?_
      have hne4_5 := hS4.2.1.1
      have lo5 := hHeld29.1.size
      obtain ⟨⟨a5_z0, a5_c0, a5_f0⟩, ⟨a5_z1, a5_c1, a5_f1⟩, _⟩ := hHeld29.2
      (try simp at lo5); (try simp at hne4_5); (try simp at a5_z0); (try simp at a5_z1)
      go_simp
      refine hK.out _ _ (by first | exact hHeld29.alloc _ | exact (hHeld29.alloc _).drew) (fun hHeld39 => ?_)
      first | replace hS4 := hS4.alloc2e hHeld39 | replace hS4 := hS4.alloc2 hHeld39
      first | have hS5 := newK2 hHeld39 | have hS5 := newK2d hHeld39
      clear hK K
      try clear hb
      try go_frame
      generalize hGWA30 : World.alloc WA23 (.cells #[.bool false, .slice none 0 0] 91) = WA30 at *
      clear hGWA30
      refine wpAnyH_ready (rs := [1]) (by kernel_rfl) (by simp) ?_
      refine AllReadyH.cons (o := ⟨some 21, _, _, _, _, _⟩) rfl (fun K hK => ?_) AllReadyH.nil
      go_simp
      (first | ((with_reducible refine (I2.out _).mono ?_); rintro e wt ⟨bt, At, nt, ct, rfl, hb, zt⟩) | ((with_reducible refine (DV.out _ _ _ (HZ.out.below (bel9 (L := [(g, 0, .bool b), (g, 1, .slice A m c')]) (by assumption))) zt).mono ?_); rintro e wd ⟨bq, Aq, nq, cq, br, Ar, nr, cr, rfl, hb, zq, zr⟩))
      refine hK.out _ _ (hHeld39.next hb) (fun hHeld40 => ?_)
      replace hS4 := hS4.next hb
      replace hS5 := hS5.next hb
      clear hK K
      try clear hb
      try go_frame
      refine wpAnyH_ready (rs := [2]) (by kernel_rfl) (by simp) ?_
      refine AllReadyH.cons (o := ⟨some 22, _, _, _, _, _⟩) rfl (fun K hK => ?_) AllReadyH.nil
      go_simp
      (first | ((with_reducible refine (I2.out _).mono ?_); rintro e wt ⟨bt, At, nt, ct, rfl, hb, zt⟩) | ((with_reducible refine (DV.out _ _ _ (HZ.out.below (bel9 (L := [(g, 0, .bool b), (g, 1, .slice A m c')]) (by assumption))) zt).mono ?_); rintro e wd ⟨bq, Aq, nq, cq, br, Ar, nr, cr, rfl, hb, zq, zr⟩))
      refine hK.out _ _ (hHeld40.next hb) (fun hHeld41 => ?_)
      replace hS4 := hS4.next hb
      replace hS5 := hS5.next hb
      (try replace zt := zt.below hb)
      clear hK K
      try clear hb
      try go_frame
      refine wpAnyH_take (i := 3) (oi := ⟨some 19, _, _, _, _, _⟩) (v := ?_) rfl (by kernel_rfl) (by kernel_rfl) (by kernel_rfl) (fun _ _ _ h => h) (Or.inl ⟨by rfl, ?_⟩) (by assumption) ?_
      rotate_left
      · intro wq hSw; go_simp; (try with_reducible rfl)
      try go_frame
      refine wpAnyH_take (i := 4) (oi := ⟨some 23, _, _, _, _, _⟩) (v := ?_) rfl (by kernel_rfl) (by kernel_rfl) (by kernel_rfl) (fun _ _ _ h => h) (Or.inl ⟨by rfl, ?_⟩) (by assumption) ?_
      rotate_left
      · intro wq hSw; go_simp; (try with_reducible rfl)
      try go_frame
      refine wpAnyH_take (i := 5) (oi := ⟨some 24, _, _, _, _, _⟩) (v := ?_) rfl (by kernel_rfl) (by kernel_rfl) (by kernel_rfl) (fun _ _ _ h => h) (Or.inl ⟨by rfl, ?_⟩) (by assumption) ?_
      rotate_left
      · intro wq hSw; go_simp; (try with_reducible rfl)
      try go_frame
      refine wpAnyH_ready (rs := [8]) (by kernel_rfl) (by simp) ?_
      refine AllReadyH.cons (o := ⟨none, _, _, _, _, _⟩) rfl (fun K hK => ?_) AllReadyH.nil
      obtain ⟨⟨s4z0, s4c0, s4f0⟩, ⟨s4z1, s4c1, s4f1⟩, _⟩ := hS4.2
      go_simp
      refine hK.out _ _ (by (repeat (first | (with_reducible exact hHeld41) | (refine Keeps.set ?_ (by simp <;> omega) (by simp <;> omega) _)))) (fun hHeld42 => ?_)
      replace hS5 := hS5.mv2 hHeld42 (by first | omega | (simp <;> omega)) (by simp <;> omega)
      (try replace zq := zq.store2 hHeld42 s4c0 s4c1)
      replace hS4 := hHeld42.add2 s4z0 s4c0 s4f0 s4c1 s4f1
      clear s4z0 s4c0 s4f0 s4z1 s4c1 s4f1
      clear hK K
      try clear hb
      try go_frame
      generalize hGWA31 : World.setCell (World.setCell wd ⟨wc.heap.size, 0, none⟩ (.bool bq)) ⟨wc.heap.size, 1, none⟩ (.slice Aq nq cq) = WA31 at *
      clear hGWA31
      refine wpAnyH_ready (rs := [9]) (by kernel_rfl) (by simp) ?_
      refine AllReadyH.cons (o := ⟨none, _, _, _, _, _⟩) rfl (fun K hK => ?_) AllReadyH.nil
      obtain ⟨⟨s5z0, s5c0, s5f0⟩, ⟨s5z1, s5c1, s5f1⟩, _⟩ := hS5.2
      go_simp
      refine hK.out _ _ (by (repeat (first | (with_reducible exact hHeld42) | (refine Keeps.set ?_ (by simp <;> omega) (by simp <;> omega) _)))) (fun hHeld43 => ?_)
      replace hS4 := hS4.mv2 hHeld43 (by first | omega | (simp <;> omega)) (by simp <;> omega)
      (try replace zq := zq.store2 hHeld43 s5c0 s5c1)
      replace hS5 := hHeld43.add2 s5z0 s5c0 s5f0 s5c1 s5f1
      clear s5z0 s5c0 s5f0 s5z1 s5c1 s5f1
      clear hK K
      try clear hb
      try go_frame
      generalize hGWA32 : World.setCell (World.setCell WA31 ⟨WA23.heap.size, 0, none⟩ (.bool br)) ⟨WA23.heap.size, 1, none⟩ (.slice Ar nr cr) = WA32 at *
      clear hGWA32
      refine wpAnyH_done (by kernel_rfl) ?_ _
      have hHeld := hHeld43
      rotate_left 1
      exact AllReadyH.nil
      refine AllReadyH.cons (o := ⟨some 5, _, _, _, _, _⟩) rfl (fun K hK => ?_) ?_
      have lo5 := hHeld0.1.size
      obtain ⟨⟨a5_z0, a5_c0, a5_f0⟩, ⟨a5_z1, a5_c1, a5_f1⟩, _⟩ := hHeld0.2
      (try simp at lo5); (try simp at a5_z0); (try simp at a5_z1)
      go_simp
      refine hK.out _ _ (by first | exact hHeld0.alloc _ | exact (hHeld0.alloc _).drew) (fun hHeld44 => ?_)
      first | have hS5 := newK2 hHeld44 | have hS5 := newK2d hHeld44
      clear hK K
      try clear hb
      try go_frame
      generalize hGWA33 : World.alloc wc (.cells #[.bool false, .slice none 0 0] 91) = WA33 at *
      clear hGWA33
      refine wpAnyH_ready (rs := [1, 6]) (by kernel_rfl) (by simp) ?_
      refine AllReadyH.cons (o := ⟨some 21, _, _, _, _, _⟩) rfl (fun K hK => ?_) ?_
      go_simp
      (first | ((with_reducible refine (I2.out _).mono ?_); rintro e wt ⟨bt, At, nt, ct, rfl, hb, zt⟩) | ((with_reducible refine (DV.out _ _ _ (HZ.out.below (bel9 (L := [(g, 0, .bool b), (g, 1, .slice A m c')]) (by assumption))) zt).mono ?_); rintro e wd ⟨bq, Aq, nq, cq, br, Ar, nr, cr, rfl, hb, zq, zr⟩))
      refine hK.out _ _ (hHeld44.next hb) (fun hHeld45 => ?_)
      replace hS5 := hS5.next hb
      clear hK K
      try clear hb
      try go_frame
      refine wpAnyH_ready (rs := [2, 6]) (by kernel_rfl) (by simp) ?_
      refine AllReadyH.cons (o := ⟨some 22, _, _, _, _, _⟩) rfl (fun K hK => ?_) ?_
      go_simp
      (first | ((with_reducible refine (I2.out _).mono ?_); rintro e wt ⟨bt, At, nt, ct, rfl, hb, zt⟩) | ((with_reducible refine (DV.out _ _ _ (HZ.out.below (bel9 (L := [(g, 0, .bool b), (g, 1, .slice A m c')]) (by assumption))) zt).mono ?_); rintro e wd ⟨bq, Aq, nq, cq, br, Ar, nr, cr, rfl, hb, zq, zr⟩))
      refine hK.out _ _ (hHeld45.next hb) (fun hHeld46 => ?_)
      replace hS5 := hS5.next hb
      (try replace zt := zt.below hb)
      clear hK K
      try clear hb
      try go_frame
      refine wpAnyH_take (i := 3) (oi := ⟨some 19, _, _, _, _, _⟩) (v := ?_) rfl (by kernel_rfl) (by kernel_rfl) (by kernel_rfl) (fun _ _ _ h => h) (Or.inl ⟨by rfl, ?_⟩) (by assumption) ?_
      rotate_left
      · intro wq hSw; go_simp; (try with_reducible rfl)
      try go_frame
      refine wpAnyH_take (i := 4) (oi := ⟨some 23, _, _, _, _, _⟩) (v := ?_) rfl (by kernel_rfl) (by kernel_rfl) (by kernel_rfl) (fun _ _ _ h => h) (Or.inl ⟨by rfl, ?_⟩) (by assumption) ?_
      rotate_left
      · intro wq hSw; go_simp; (try with_reducible rfl)
      try go_frame
      refine wpAnyH_take (i := 5) (oi := ⟨some 24, _, _, _, _, _⟩) (v := ?_) rfl (by kernel_rfl) (by kernel_rfl) (by kernel_rfl) (fun _ _ _ h => h) (Or.inl ⟨by rfl, ?_⟩) (by assumption) ?_
      rotate_left
      · intro wq hSw; go_simp; (try with_reducible rfl)
      try go_frame
      refine wpAnyH_ready (rs := [6]) (by kernel_rfl) (by simp) ?_
      refine AllReadyH.cons (o := ⟨some 4, _, _, _, _, _⟩) rfl (fun K hK => ?_) AllReadyH.nil
      have hne5_4 := hS5.2.1.1
      have lo4 := hHeld46.1.size
      obtain ⟨⟨a4_z0, a4_c0, a4_f0⟩, ⟨a4_z1, a4_c1, a4_f1⟩, _⟩ := hHeld46.2
      (try simp at lo4); (try simp at hne5_4); (try simp at a4_z0); (try simp at a4_z1)
      go_simp
      refine hK.out _ _ (by first | exact hHeld46.alloc _ | exact (hHeld46.alloc _).drew) (fun hHeld47 => ?_)
      first | replace hS5 := hS5.alloc2e hHeld47 | replace hS5 := hS5.alloc2 hHeld47
      (try replace zq := zq.alloc2 hHeld47)
      first | have hS4 := newK2 hHeld47 | have hS4 := newK2d hHeld47
      clear hK K
      try clear hb
      try go_frame
      generalize hGWA34 : World.alloc wd (.cells #[.bool false, .slice none 0 0] 91) = WA34 at *
      clear hGWA34
      refine wpAnyH_ready (rs := [8]) (by kernel_rfl) (by simp) ?_
      refine AllReadyH.cons (o := ⟨none, _, _, _, _, _⟩) rfl (fun K hK => ?_) AllReadyH.nil
      obtain ⟨⟨s4z0, s4c0, s4f0⟩, ⟨s4z1, s4c1, s4f1⟩, _⟩ := hS4.2
      go_simp
      refine hK.out _ _ (by (repeat (first | (with_reducible exact hHeld47) | (refine Keeps.set ?_ (by simp <;> omega) (by simp <;> omega) _)))) (fun hHeld48 => ?_)
      replace hS5 := hS5.mv2 hHeld48 (by first | omega | (simp <;> omega)) (by simp <;> omega)
      (try replace zq := zq.store2 hHeld48 s4c0 s4c1)
      replace hS4 := hHeld48.add2 s4z0 s4c0 s4f0 s4c1 s4f1
      clear s4z0 s4c0 s4f0 s4z1 s4c1 s4f1
      clear hK K
      try clear hb
      try go_frame
      generalize hGWA35 : World.setCell (World.setCell WA34 ⟨wd.heap.size, 0, none⟩ (.bool bq)) ⟨wd.heap.size, 1, none⟩ (.slice Aq nq cq) = WA35 at *
      clear hGWA35
      refine wpAnyH_ready (rs := [9]) (by kernel_rfl) (by simp) ?_
      refine AllReadyH.cons (o := ⟨none, _, _, _, _, _⟩) rfl (fun K hK => ?_) AllReadyH.nil
      obtain ⟨⟨s5z0, s5c0, s5f0⟩, ⟨s5z1, s5c1, s5f1⟩, _⟩ := hS5.2
      go_simp
      refine hK.out _ _ (by (repeat (first | (with_reducible exact hHeld48) | (refine Keeps.set ?_ (by simp <;> omega) (by simp <;> omega) _)))) (fun hHeld49 => ?_)
      replace hS4 := hS4.mv2 hHeld49 (by first | omega | (simp <;> omega)) (by simp <;> omega)
      (try replace zq := zq.store2 hHeld49 s5c0 s5c1)
      replace hS5 := hHeld49.add2 s5z0 s5c0 s5f0 s5c1 s5f1
      clear s5z0 s5c0 s5f0 s5z1 s5c1 s5f1
      clear hK K
      try clear hb
      try go_frame
      generalize hGWA36 : World.setCell (World.setCell WA35 ⟨wc.heap.size, 0, none⟩ (.bool br)) ⟨wc.heap.size, 1, none⟩ (.slice Ar nr cr) = WA36 at *
      clear hGWA36
      refine wpAnyH_done (by kernel_rfl) ?_ _
      have hHeld := hHeld49
      rotate_left 1
      refine AllReadyH.cons (o := ⟨some 4, _, _, _, _, _⟩) rfl (fun K hK => ?_) ?_
      have hne5_4 := hS5.2.1.1
      have lo4 := hHeld45.1.size
      obtain ⟨⟨a4_z0, a4_c0, a4_f0⟩, ⟨a4_z1, a4_c1, a4_f1⟩, _⟩ := hHeld45.2
      (try simp at lo4); (try simp at hne5_4); (try simp at a4_z0); (try simp at a4_z1)
      go_simp
      refine hK.out _ _ (by first | exact hHeld45.alloc _ | exact (hHeld45.alloc _).drew) (fun hHeld50 => ?_)
      first | replace hS5 := hS5.alloc2e hHeld50 | replace hS5 := hS5.alloc2 hHeld50
      (try replace zt := zt.alloc2 hHeld50)
      first | have hS4 := newK2 hHeld50 | have hS4 := newK2d hHeld50
      clear hK K
      try clear hb
      try go_frame
      generalize hGWA37 : World.alloc wt (.cells #[.bool false, .slice none 0 0] 91) = WA37 at *
      clear hGWA37
      refine wpAnyH_ready (rs := [2]) (by kernel_rfl) (by simp) ?_
      refine AllReadyH.cons (o := ⟨some 22, _, _, _, _, _⟩) rfl (fun K hK => ?_) AllReadyH.nil
      go_simp
      (first | ((with_reducible refine (I2.out _).mono ?_); rintro e wt ⟨bt, At, nt, ct, rfl, hb, zt⟩) | ((with_reducible refine (DV.out _ _ _ (HZ.out.below (bel9 (L := [(g, 0, .bool b), (g, 1, .slice A m c')]) (by assumption))) zt).mono ?_); rintro e wd ⟨bq, Aq, nq, cq, br, Ar, nr, cr, rfl, hb, zq, zr⟩))
      refine hK.out _ _ (hHeld50.next hb) (fun hHeld51 => ?_)
      replace hS5 := hS5.next hb
      replace hS4 := hS4.next hb
      (try replace zt := zt.below hb)
      clear hK K
      try clear hb
      try go_frame
      refine wpAnyH_take (i := 3) (oi := ⟨some 19, _, _, _, _, _⟩) (v := ?_) rfl (by kernel_rfl) (by kernel_rfl) (by kernel_rfl) (fun _ _ _ h => h) (Or.inl ⟨by rfl, ?_⟩) (by assumption) ?_
      rotate_left
      · intro wq hSw; go_simp; (try with_reducible rfl)
      try go_frame
      refine wpAnyH_take (i := 4) (oi := ⟨some 23, _, _, _, _, _⟩) (v := ?_) rfl (by kernel_rfl) (by kernel_rfl) (by kernel_rfl) (fun _ _ _ h => h) (Or.inl ⟨by rfl, ?_⟩) (by assumption) ?_
      rotate_left
      · intro wq hSw; go_simp; (try with_reducible rfl)
      try go_frame
      refine wpAnyH_take (i := 5) (oi := ⟨some 24, _, _, _, _, _⟩) (v := ?_) rfl (by kernel_rfl) (by kernel_rfl) (by kernel_rfl) (fun _ _ _ h => h) (Or.inl ⟨by rfl, ?_⟩) (by assumption) ?_
      rotate_left
      · intro wq hSw; go_simp; (try with_reducible rfl)
      try go_frame
      refine wpAnyH_ready (rs := [8]) (by kernel_rfl) (by simp) ?_
      refine AllReadyH.cons (o := ⟨none, _, _, _, _, _⟩) rfl (fun K hK => ?_) AllReadyH.nil
      obtain ⟨⟨s4z0, s4c0, s4f0⟩, ⟨s4z1, s4c1, s4f1⟩, _⟩ := hS4.2
      go_simp
      refine hK.out _ _ (by (repeat (first | (with_reducible exact hHeld51) | (refine Keeps.set ?_ (by simp <;> omega) (by simp <;> omega) _)))) (fun hHeld52 => ?_)
      replace hS5 := hS5.mv2 hHeld52 (by first | omega | (simp <;> omega)) (by simp <;> omega)
      (try replace zq := zq.store2 hHeld52 s4c0 s4c1)
      replace hS4 := hHeld52.add2 s4z0 s4c0 s4f0 s4c1 s4f1
      clear s4z0 s4c0 s4f0 s4z1 s4c1 s4f1
      clear hK K
      try clear hb
      try go_frame
      generalize hGWA38 : World.setCell (World.setCell wd ⟨wt.heap.size, 0, none⟩ (.bool bq)) ⟨wt.heap.size, 1, none⟩ (.slice Aq nq cq) = WA38 at *
      clear hGWA38
      refine wpAnyH_ready (rs := [9]) (by kernel_rfl) (by simp) ?_
      refine AllReadyH.cons (o := ⟨none, _, _, _, _, _⟩) rfl (fun K hK => ?_) AllReadyH.nil
      obtain ⟨⟨s5z0, s5c0, s5f0⟩, ⟨s5z1, s5c1, s5f1⟩, _⟩ := hS5.2
      go_simp
      refine hK.out _ _ (by (repeat (first | (with_reducible exact hHeld52) | (refine Keeps.set ?_ (by simp <;> omega) (by simp <;> omega) _)))) (fun hHeld53 => ?_)
      replace hS4 := hS4.mv2 hHeld53 (by first | omega | (simp <;> omega)) (by simp <;> omega)
      (try replace zq := zq.store2 hHeld53 s5c0 s5c1)
      replace hS5 := hHeld53.add2 s5z0 s5c0 s5f0 s5c1 s5f1
      clear s5z0 s5c0 s5f0 s5z1 s5c1 s5f1
      clear hK K
      try clear hb
      try go_frame
      generalize hGWA39 : World.setCell (World.setCell WA38 ⟨wc.heap.size, 0, none⟩ (.bool br)) ⟨wc.heap.size, 1, none⟩ (.slice Ar nr cr) = WA39 at *
      clear hGWA39
      refine wpAnyH_done (by kernel_rfl) ?_ _
      have hHeld := hHeld53
      rotate_left 1
      exact AllReadyH.nil
      refine AllReadyH.cons (o := ⟨some 4, _, _, _, _, _⟩) rfl (fun K hK => ?_) ?_
      have hne5_4 := hS5.2.1.1
      have lo4 := hHeld44.1.size
      obtain ⟨⟨a4_z0, a4_c0, a4_f0⟩, ⟨a4_z1, a4_c1, a4_f1⟩, _⟩ := hHeld44.2
      (try simp at lo4); (try simp at hne5_4); (try simp at a4_z0); (try simp at a4_z1)
      go_simp
      refine hK.out _ _ (by first | exact hHeld44.alloc _ | exact (hHeld44.alloc _).drew) (fun hHeld54 => ?_)
      first | replace hS5 := hS5.alloc2e hHeld54 | replace hS5 := hS5.alloc2 hHeld54
      first | have hS4 := newK2 hHeld54 | have hS4 := newK2d hHeld54
      clear hK K
      try clear hb
      try go_frame
      generalize hGWA40 : World.alloc WA33 (.cells #[.bool false, .slice none 0 0] 91) = WA40 at *
      clear hGWA40
      refine wpAnyH_ready (rs := [1]) (by kernel_rfl) (by simp) ?_
      refine AllReadyH.cons (o := ⟨some 21, _, _, _, _, _⟩) rfl (fun K hK => ?_) AllReadyH.nil
      go_simp
      (first | ((with_reducible refine (I2.out _).mono ?_); rintro e wt ⟨bt, At, nt, ct, rfl, hb, zt⟩) | ((with_reducible refine (DV.out _ _ _ (HZ.out.below (bel9 (L := [(g, 0, .bool b), (g, 1, .slice A m c')]) (by assumption))) zt).mono ?_); rintro e wd ⟨bq, Aq, nq, cq, br, Ar, nr, cr, rfl, hb, zq, zr⟩))
      refine hK.out _ _ (hHeld54.next hb) (fun hHeld55 => ?_)
      replace hS5 := hS5.next hb
      replace hS4 := hS4.next hb
      clear hK K
      try clear hb
      try go_frame
      refine wpAnyH_ready (rs := [2]) (by kernel_rfl) (by simp) ?_
      refine AllReadyH.cons (o := ⟨some 22, _, _, _, _, _⟩) rfl (fun K hK => ?_) AllReadyH.nil
      go_simp
      (first | ((with_reducible refine (I2.out _).mono ?_); rintro e wt ⟨bt, At, nt, ct, rfl, hb, zt⟩) | ((with_reducible refine (DV.out _ _ _ (HZ.out.below (bel9 (L := [(g, 0, .bool b), (g, 1, .slice A m c')]) (by assumption))) zt).mono ?_); rintro e wd ⟨bq, Aq, nq, cq, br, Ar, nr, cr, rfl, hb, zq, zr⟩))
      refine hK.out _ _ (hHeld55.next hb) (fun hHeld56 => ?_)
      replace hS5 := hS5.next hb
      replace hS4 := hS4.next hb
      (try replace zt := zt.below hb)
      clear hK K
      try clear hb
      try go_frame
      refine wpAnyH_take (i := 3) (oi := ⟨some 19, _, _, _, _, _⟩) (v := ?_) rfl (by kernel_rfl) (by kernel_rfl) (by kernel_rfl) (fun _ _ _ h => h) (Or.inl ⟨by rfl, ?_⟩) (by assumption) ?_
      rotate_left
      · intro wq hSw; go_simp; (try with_reducible rfl)
      try go_frame
      refine wpAnyH_take (i := 4) (oi := ⟨some 23, _, _, _, _, _⟩) (v := ?_) rfl (by kernel_rfl) (by kernel_rfl) (by kernel_rfl) (fun _ _ _ h => h) (Or.inl ⟨by rfl, ?_⟩) (by assumption) ?_
      rotate_left
      · intro wq hSw; go_simp; (try with_reducible rfl)
      try go_frame
      refine wpAnyH_take (i := 5) (oi := ⟨some 24, _, _, _, _, _⟩) (v := ?_) rfl (by kernel_rfl) (by kernel_rfl) (by kernel_rfl) (fun _ _ _ h => h) (Or.inl ⟨by rfl, ?_⟩) (by assumption) ?_
      rotate_left
      · intro wq hSw; go_simp; (try with_reducible rfl)
      try go_frame
      refine wpAnyH_ready (rs := [8]) (by kernel_rfl) (by simp) ?_
      refine AllReadyH.cons (o := ⟨none, _, _, _, _, _⟩) rfl (fun K hK => ?_) AllReadyH.nil
      obtain ⟨⟨s4z0, s4c0, s4f0⟩, ⟨s4z1, s4c1, s4f1⟩, _⟩ := hS4.2
      go_simp
      refine hK.out _ _ (by (repeat (first | (with_reducible exact hHeld56) | (refine Keeps.set ?_ (by simp <;> omega) (by simp <;> omega) _)))) (fun hHeld57 => ?_)
      replace hS5 := hS5.mv2 hHeld57 (by first | omega | (simp <;> omega)) (by simp <;> omega)
      (try replace zq := zq.store2 hHeld57 s4c0 s4c1)
      replace hS4 := hHeld57.add2 s4z0 s4c0 s4f0 s4c1 s4f1
      clear s4z0 s4c0 s4f0 s4z1 s4c1 s4f1
      clear hK K
      try clear hb
      try go_frame
      generalize hGWA41 : World.setCell (World.setCell wd ⟨WA33.heap.size, 0, none⟩ (.bool bq)) ⟨WA33.heap.size, 1, none⟩ (.slice Aq nq cq) = WA41 at *
      clear hGWA41
      refine wpAnyH_ready (rs := [9]) (by kernel_rfl) (by simp) ?_
      refine AllReadyH.cons (o := ⟨none, _, _, _, _, _⟩) rfl (fun K hK => ?_) AllReadyH.nil
      obtain ⟨⟨s5z0, s5c0, s5f0⟩, ⟨s5z1, s5c1, s5f1⟩, _⟩ := hS5.2
      go_simp
      refine hK.out _ _ (by (repeat (first | (with_reducible exact hHeld57) | (refine Keeps.set ?_ (by simp <;> omega) (by simp <;> omega) _)))) (fun hHeld58 => ?_)
      replace hS4 := hS4.mv2 hHeld58 (by first | omega | (simp <;> omega)) (by simp <;> omega)
      (try replace zq := zq.store2 hHeld58 s5c0 s5c1)
      replace hS5 := hHeld58.add2 s5z0 s5c0 s5f0 s5c1 s5f1
      clear s5z0 s5c0 s5f0 s5z1 s5c1 s5f1
      clear hK K
      try clear hb
      try go_frame
      generalize hGWA42 : World.setCell (World.setCell WA41 ⟨wc.heap.size, 0, none⟩ (.bool br)) ⟨wc.heap.size, 1, none⟩ (.slice Ar nr cr) = WA42 at *
      clear hGWA42
      refine wpAnyH_done (by kernel_rfl) ?_ _
      have hHeld := hHeld58
      rotate_left 1
      exact AllReadyH.nil
      exact AllReadyH.nil
      all_goals
        go_wp2_with fail
        go_meet
        case rel => exact ⟨_, _, _, _, _, rfl, Lib.hid zq, Lib.hid hS4.1, hS4.2.1, hS4.2.2.1, trivial⟩
    case rest =>
      obtain ⟨g2, b2, A2, m2, c2', rfl, HZ2, HB2, hC⟩ := hcut
      obtain ⟨⟨jz0, jc0, jf0⟩, ⟨jz1, jc1, jf1⟩, _⟩ := hC
      have VB := Lib.hid (VA.out _ _ HZ2.out)
      clear VA HZ2 HZ kz0 kc0 kf0 kz1 kc1 kf1
      go_wp2_with fail
      refine VB.out.mono ?_
      rintro e w5 ⟨rfl, hb⟩
      go_wp2_with fail
      go_ret
      exact ⟨rfl, under (under HK.out.1 HB2.out) hb⟩
end Go.Proofs.YtjioljgojfcckaaGreat.P9
