/-
  Layer 7: runs: the pieces of runs. Conditions: those written at each fact.
-/
import Derived.Test.YtlfjmdfplmdmgaaRnM
namespace Go.Proofs.Ytlfjmdfplmdmgaa
open Go.RowKit Go.Shelf

theorem okB_facts {l : List Rn} (h : okB l = true) : l ≠ [] ∧ (∀ r ∈ l, RunOk r) ∧ totalR l ≤ 256 ∧ l.length ≤ 256 := by
  have key : ∀ (l : List Rn) (p : Option Rn) (n : Int), 0 ≤ n → n ≤ 256 → restB p n l = true → (∀ r ∈ l, RunOk r) ∧ n + totalR l ≤ 256 ∧ n + l.length ≤ 256 := by
    intro l
    induction l with
    | nil => intro p n h0 h1 _; simp [totalR]; omega
    | cons r l ih =>
      intro p n h0 h1 hb
      simp only [restB, Bool.and_eq_true] at hb
      obtain ⟨hb1, _, hb2⟩ := hb
      have hr := runB_ok (by omega) hb1
      have hc : r.c ≤ 256 - n := by unfold runB at hb1; simp only [Bool.and_eq_true, decide_eq_true_eq] at hb1; exact hb1.2.1
      obtain ⟨i1, i2, i3⟩ := ih (some r) (n + r.c) (by have := hr.1; omega) (by omega) hb2
      refine ⟨fun x hx => ?_, by simp only [totalR]; omega, by have := hr.1; simp only [List.length_cons]; omega⟩
      rcases List.mem_cons.1 hx with rfl | hx
      · exact hr
      · exact i1 x hx
  unfold okB at h
  simp only [Bool.and_eq_true, decide_eq_true_eq] at h
  obtain ⟨h1, h2⟩ := h
  obtain ⟨a, b, c⟩ := key l none 0 (by omega) (by omega) h2
  exact ⟨h1, a, by omega, by omega⟩
/-- What pieces leaves. -/
def PiecesEnd (w : World) (l : List Rn) (i j : Int) (e : Ending) (w' : World) : Prop :=
  Below w.heap.size w w' ∧ if okB l then (if 0 ≤ i ∧ i < j ∧ j ≤ totalR l then ∃ v, e = .returned v ∧ w'.ownsRow w.heap.size 36 3 v (piecesR l i j).length (flatR (piecesR l i j)) else e = thrown 2) else e = thrown 170

set_option maxRecDepth 100000 in
set_option maxHeartbeats 2000000 in
theorem pieces_any (l : List Rn) (hl : l.length ≤ 1000000) (i j : Int) (v : Value) (w : World) (h : ReadsR w v l) : Calls Try.prog 57 #[v, .int .i64 i, .int .i64 j] w (PiecesEnd w l i j) := by
  obtain ⟨i0, hi, hz0, hz1, hz2⟩ := info_parts infoRun
  have CA := Lib.hid (count_any l (by omega) v w h)
  have hrd := h
  obtain ⟨A, c, rfl, hc, hk⟩ := h
  cases gk : okB l
  · have HK := Lib.hid gk
    clear gk
    go_enter Try.func57, Try.ntmps57
    go_wp2_with (go_at_call 38; refine CA.out.mono ?_; rintro e w1 ⟨he, hb⟩; rw [HK.out] at he; replace he : e = thrown 170 := he; subst he)
    exact ⟨rfl, hb, by rw [HK.out]; rfl⟩
  obtain ⟨hne, hR, hT, hl2⟩ := okB_facts gk
  have HK := Lib.hid gk
  have CB : Hid (Calls Try.prog 38 #[.slice A l.length c] w (Ret w (.int .i64 (totalR l)))) := Lib.hid (CA.out.mono fun e w' he => ⟨by rw [he.1, gk]; rfl, he.2⟩)
  have HRD := Lib.hid hrd
  clear gk CA hrd
  obtain ⟨n, hn⟩ : ∃ n, n = totalR l := ⟨_, rfl⟩
  rw [← hn] at CB hT
  by_cases gij : 0 ≤ i ∧ i < j ∧ j ≤ n
  · obtain ⟨g1, g2, g3⟩ := gij
    have EP : Hid (PiecesEnd w l i j = fun e w' => Below w.heap.size w w' ∧ ∃ v, e = .returned v ∧ w'.ownsRow w.heap.size 36 3 v (piecesR l i j).length (flatR (piecesR l i j))) := Lib.hid (by
      funext e w'
      simp only [PiecesEnd, HK.out, if_true]
      rw [if_pos ⟨g1, g2, hn ▸ g3⟩])
    rw [EP.out]
    clear EP
    have hc1 : ∀ r ∈ l, 1 ≤ r.c := fun r hr => (hR r hr).1
    have WA := Lib.hid (fun W (hb : Below w.heap.size w W) => where_any l hl hR i g1 (by omega) (by omega) _ W (HRD.out.below hb))
    have WB := Lib.hid (fun W (hb : Below w.heap.size w W) => where_any l hl hR (j - 1) (by omega) (by omega) (by omega) _ W (HRD.out.below hb))
    obtain ⟨ra, a1, a2, a3⟩ := whereR_lt (l := l) hc1 g1 (by omega)
    obtain ⟨rb, b1, b2, b3⟩ := whereR_lt (l := l) hc1 (show 0 ≤ j - 1 by omega) (by omega)
    have hab := whereR_mono (l := l) (show i ≤ j - 1 by omega)
    have EQ : Hid (piecesR l i j = trimR ((l.drop (whereR l i).1).take ((whereR l (j - 1)).1 + 1 - (whereR l i).1)) (whereR l i).2 (whereR l (j - 1)).2) := Lib.hid rfl
    generalize whereR l i = xa at *
    generalize whereR l (j - 1) = xb at *
    obtain ⟨a, p⟩ := xa
    obtain ⟨b, q⟩ := xb
    simp only at a1 a2 a3 b1 b2 b3 hab WA WB EQ
    have hal : a < l.length := (List.getElem?_eq_some_iff.1 a1).1
    have hbl : b < l.length := (List.getElem?_eq_some_iff.1 b1).1
    have h1 : decide (0 ≤ i) = true := by simpa using g1
    have MT := Lib.hid (must_true 2)
    have hj1 : wrap64 (j - 1) = j - 1 := i64_keeps (by omega) (by omega)
    generalize piecesR l i j = PR at *
    clear hn
    go_enter Try.func57, Try.ntmps57
    go_wp2_with fail
    refine CB.out.mono ?_
    rintro e w1 ⟨rfl, hb1⟩
    go_wp2_with fail
    refine (MT.out _).mono ?_
    rintro e w2 ⟨rfl, hb2⟩
    have hb12 := under hb1 hb2
    go_wp2_with fail
    refine (WA.out _ hb12).mono ?_
    rintro e w3 ⟨rfl, hb3⟩
    have hb13 := under hb12 hb3
    go_wp2_with fail
    refine (WB.out _ hb13).mono ?_
    rintro e w4 ⟨rfl, hb4⟩
    have hb14 := under hb13 hb4
    clear hb1 hb2 hb3 hb4 hb12 hb13
    go_wp2_with fail
    obtain ⟨ad, had, hcl⟩ : ∃ ad, Option.map (fun x : Addr => x.add (a * 3)) A = some ad ∧ ∀ j u, (flatR ((l.drop a).take (b + 1 - a)))[j]? = some u → w.cell? (ad.add j) = some u ∧ ad.block < w.heap.size ∧ (ad.add j).block = ad.block := by
      obtain ⟨bb, off, rfl, hbw, _⟩ := hk a ra a1
      have hadd : ∀ j, (⟨bb, off, none⟩ : Addr).add j = ⟨bb, off + j, none⟩ := fun j => by unfold Addr.add; split <;> simp_all
      refine ⟨⟨bb, off + a * 3, none⟩, by simp [hadd], fun j u hj => ⟨?_, hbw, by unfold Addr.add; split <;> simp_all⟩⟩
      refine reads_flat (m := (l.drop a).take (b + 1 - a)) (fun i r hi => ?_) j u hj
      have hi2 : l[a + i]? = some r := by
        rw [List.getElem?_take] at hi
        split at hi
        · rwa [List.getElem?_drop] at hi
        · cases hi
      obtain ⟨bb', off', e1, _, e3, e4, e5⟩ := hk (a + i) r hi2
      cases e1
      rw [show off + a * 3 + i * 3 = off + (a + i) * 3 by omega]
      exact ⟨e3, e4, e5⟩
    have hml : ((l.drop a).take (b + 1 - a)).length = b + 1 - a := by rw [List.length_take, List.length_drop]; omega
    have hm0 : ((l.drop a).take (b + 1 - a))[0]? = some ra := by rw [List.getElem?_take, if_pos (by omega), List.getElem?_drop]; exact a1
    have hmj : ((l.drop a).take (b + 1 - a))[b - a]? = some rb := by rw [List.getElem?_take, if_pos (by omega), List.getElem?_drop, show a + (b - a) = b by omega]; exact b1
    have hab2 : b - a = 0 → ra = rb := fun e => by
      have : a = b := by omega
      subst this
      rw [a1] at b1
      exact Option.some.inj b1
    have hRa : RunOk ra := hR ra (List.mem_of_getElem? a1)
    have hRb : RunOk rb := hR rb (List.mem_of_getElem? b1)
    rw [had]
    obtain ⟨jj, hjj⟩ : ∃ jj, jj = b - a := ⟨_, rfl⟩
    have hN : b + 1 - a = jj + 1 := by omega
    have hjl : jj ≤ 256 := by omega
    rw [hN] at hcl hml hm0 hmj EQ ⊢
    rw [← hjj] at hmj hab2
    generalize (l.drop a).take (jj + 1) = m at *
    clear hk hR hc1 a1 b1 hne hl2 hal hbl hab hN hjj had HRD CB WA WB
    have hmk : ∀ W : World, (Instr.makeSlice 22 (.int .i64 ((jj + 1 : Nat) : Int)) (.int .i64 ((jj + 1 : Nat) : Int))).run Try.prog W = .ok (.slice (some ⟨W.heap.size, 0, none⟩) (jj + 1) (jj + 1)) (W.alloc (.cells (madeCells #[.int .i64 0, .int .i64 0, .int .i64 0] ((jj + 1) * 3)) 36)) := by
      intro W
      have := run_make (P := Try.prog) W 22 36 i0 (.agg #[.int .i64 0, .int .i64 0, .int .i64 0]) Try.underlying22 hi hz0 .i64 .i64 ((jj + 1 : Nat) : Int) ((jj + 1 : Nat) : Int) (by omega) (by omega) (by rw [hz2]; omega) (by omega)
      simpa [Value.cells, hz1] using this
    rw [hmk]
    have HEQ := EQ
    clear EQ
    have hcp : ∀ ty, (Builtin.copy_ #[22, 22] ty #[.slice (some ⟨w4.heap.size, 0, none⟩) (jj + 1) (jj + 1), .slice (some ad) (jj + 1) (jj + 1)]).run Try.prog (w4.alloc (.cells (madeCells #[.int .i64 0, .int .i64 0, .int .i64 0] ((jj + 1) * 3)) 36)) =
        .ok (goInt (jj + 1 : Nat)) ((w4.alloc (.cells (madeCells #[.int .i64 0, .int .i64 0, .int .i64 0] ((jj + 1) * 3)) 36)).setRow w4.heap.size (flatR m).toArray) := by
      intro ty
      have := run_copy_wide (P := Try.prog) (w4.alloc (.cells (madeCells #[.int .i64 0, .int .i64 0, .int .i64 0] ((jj + 1) * 3)) 36)) 22 22 ty 36 w4.heap.size 0 (jj + 1) (jj + 1) ad (jj + 1) (jj + 1) 3 _ _ (flatR m) Try.underlying22 (by rw [hi]; simp [hz1]) (World.alloc_heap_new w4 _)
        (by rw [flatR_length, hml]; simp) (fun j u hj => ?_) (by rw [flatR_length, hml, size_madeCells]; omega) (flatR_one m)
      · rw [this]
        have e : ((madeCells #[.int .i64 0, .int .i64 0, .int .i64 0] ((jj + 1) * 3)).toList.take 0 ++ flatR m ++ (madeCells #[.int .i64 0, .int .i64 0, .int .i64 0] ((jj + 1) * 3)).toList.drop (0 + (flatR m).length)) = flatR m := by
          rw [List.drop_of_length_le (by rw [flatR_length, hml, Array.length_toList, size_madeCells]; omega)]
          simp
        rw [e, show Nat.min (jj + 1) (jj + 1) = jj + 1 by simp]
      · obtain ⟨h1, h2, h3⟩ := hcl j u hj
        exact ((hb14.trans ((below_alloc w4 _).mono hb14.size)).cell (p := ad.add j) (by rw [h3]; exact h2)).trans h1
    obtain ⟨w5, hw5, HR5, hb5⟩ : ∃ w5, ((w4.alloc (.cells (madeCells #[.int .i64 0, .int .i64 0, .int .i64 0] ((jj + 1) * 3)) 36)).setRow w4.heap.size (flatR m).toArray) = w5 ∧ RowAt w5 w4.heap.size m ∧ Below w.heap.size w w5 := by
      refine ⟨_, rfl, setRow_heap _ _ _ _ _ _ (World.alloc_heap_new w4 _), ?_⟩
      have h4 := hb14.trans ((below_alloc w4 (.cells (madeCells #[.int .i64 0, .int .i64 0, .int .i64 0] ((jj + 1) * 3)) 36)).mono hb14.size)
      refine ⟨h4.os, h4.tape, h4.output, by have := h4.size; simpa [World.setRow] using this, fun k hk => ?_⟩
      exact (setRow_other _ _ _ _ (by have := hb14.size; omega)).trans (h4.block k hk)
    simp only [hw5] at hcp
    have hgB := hb14.size
    generalize w4.heap.size = g at *
    have hq1 : q ≤ 256 := by have := hRb.2.1; omega
    have hp1 : p ≤ 256 := by have := hRa.2.1; omega
    obtain ⟨r1, r2, r3, r4, r5, r6, r7⟩ := hRa
    obtain ⟨hgl, k0, k1, k2, kf⟩ := HR5.cells hmj
    obtain ⟨w6, hw6⟩ : ∃ w6, w5.setCell ⟨g, jj * 3 + 2, none⟩ (.int .i64 (q + 1)) = w6 := ⟨_, rfl⟩
    have HR6 : RowAt w6 g (m.set jj ⟨rb.f, rb.s, q + 1⟩) := hw6 ▸ HR5.setC hmj (q + 1)
    have hb6 : Below w.heap.size w w6 := hw6 ▸ hb5.setCell (p := ⟨g, jj * 3 + 2, none⟩) hgB _
    obtain ⟨c0, h0, hc0⟩ : ∃ c0, (m.set jj ⟨rb.f, rb.s, q + 1⟩)[0]? = some ⟨ra.f, ra.s, c0⟩ ∧ 0 ≤ c0 ∧ c0 ≤ 300 := by
      by_cases e : jj = 0
      · subst e
        refine ⟨q + 1, ?_, by omega, by omega⟩
        rw [List.getElem?_set_self (by omega), hab2 rfl]
      · refine ⟨ra.c, ?_, by omega, by omega⟩
        rw [List.getElem?_set_ne e, hm0]
    obtain ⟨_, l0, l1, l2, lf⟩ := HR6.cells h0
    simp only [Nat.zero_mul, Nat.zero_add] at l0 l1 l2
    have HE : Hid (PR = (((m.set jj ⟨rb.f, rb.s, q + 1⟩).set 0 ⟨ra.f + p * ra.s, ra.s, c0⟩).set 0 ⟨ra.f + p * ra.s, ra.s, c0 - p⟩)) := Lib.hid (by
      have e := HEQ.out
      unfold trimR at e
      rw [hml, show jj + 1 - 1 = jj by omega, hmj] at e
      simp only at e
      rw [e]
      generalize m.set jj ⟨rb.f, rb.s, q + 1⟩ = m1 at h0
      cases m1 with
      | nil => simp at h0
      | cons x t =>
        simp at h0
        subst h0
        rfl)
    have hml1 : (m.set jj ⟨rb.f, rb.s, q + 1⟩).length = jj + 1 := by rw [List.length_set]; exact hml
    have H0 := Lib.hid h0
    generalize m.set jj ⟨rb.f, rb.s, q + 1⟩ = m1 at *
    have NT := Lib.hid (nth_at ra.f ra.s c0 p a2 (by omega) (by omega) r5 r3 r7)
    clear hcl hmk hb14 hw5 hmj hm0 hab2 hRb hml HEQ h0 hb5
    generalize ra.f + p * ra.s = x at *
    go_wp2_with (at_builtin; refine Lib.wpList_copy_run _ rfl _ _ 22 22 rfl _ _ rfl rfl (hcp _) ?_)
    refine (NT.out _).mono ?_
    rintro e w7 ⟨rfl, hb7⟩
    have HR7 : RowAt w7 g m1 := (hb7.block g (Array.getElem?_eq_some_iff.1 HR6).1).trans HR6
    have hb67 := hb6.trans (hb7.mono hb6.size)
    obtain ⟨_, n0, n1, n2, nf⟩ := HR7.cells H0.out
    simp only [Nat.zero_mul, Nat.zero_add] at n0 n1 n2
    obtain ⟨w8, hw8⟩ : ∃ w8, w7.setCell ⟨g, 0, none⟩ (.int .i64 x) = w8 := ⟨_, rfl⟩
    have HR8 : RowAt w8 g (m1.set 0 ⟨x, ra.s, c0⟩) := by have := HR7.setF H0.out x; rwa [Nat.zero_mul, hw8] at this
    have hb8 : Below w.heap.size w w8 := hw8 ▸ hb67.setCell (p := ⟨g, 0, none⟩) hgB _
    have h08 : (m1.set 0 ⟨x, ra.s, c0⟩)[0]? = some ⟨x, ra.s, c0⟩ := List.getElem?_set_self (by rw [hml1]; omega)
    obtain ⟨_, o0, o1, o2, of⟩ := HR8.cells h08
    simp only [Nat.zero_mul, Nat.zero_add] at o0 o1 o2
    have HR9 : RowAt (w8.setCell ⟨g, 2, none⟩ (.int .i64 (c0 - p))) g ((m1.set 0 ⟨x, ra.s, c0⟩).set 0 ⟨x, ra.s, c0 - p⟩) := by have := HR8.setC h08 (c0 - p); rwa [Nat.zero_mul, Nat.zero_add] at this
    have hb9 : Below w.heap.size w (w8.setCell ⟨g, 2, none⟩ (.int .i64 (c0 - p))) := hb8.setCell (p := ⟨g, 2, none⟩) hgB _
    have HR := Lib.hid HR9
    have HB := Lib.hid hb9
    have HL := Lib.hid (show ((m1.set 0 ⟨x, ra.s, c0⟩).set 0 ⟨x, ra.s, c0 - p⟩).length = jj + 1 by rw [List.length_set, List.length_set]; exact hml1)
    clear HR9 hb9 HR8 hb8 HR7 hb67 hb7 hb6 HR6 HR5 l0 l1 l2 lf k0 k1 k2 kf hw6 hcp NT H0 hml1 h08
    obtain ⟨hc1, hc2⟩ := hc0
    go_wp2_with fail
    go_ret
    have ho := HR.out.owns hgB (by rw [HL.out]; unfold maxLen; omega)
    rw [HL.out] at ho
    rw [HE.out, HL.out]
    exact ⟨HB.out, _, rfl, ho⟩
  · have MF := Lib.hid (must_false 2)
    have EP : Hid (PiecesEnd w l i j = fun e w' => Below w.heap.size w w' ∧ e = thrown 2) := Lib.hid (by
      funext e w'
      simp only [PiecesEnd, HK.out, if_true]
      rw [if_neg (hn ▸ gij)])
    rw [EP.out]
    clear EP HRD hk hne hR hT hl2
    by_cases h0 : 0 ≤ i
    · have d0 : decide (0 ≤ i) = true := by simpa using h0
      by_cases h1 : i < j
      · have d2 : ¬ j ≤ n := fun h => gij ⟨h0, h1, h⟩
        have HD := Lib.hid (decide_eq_false d2)
        clear gij d2 hn
        go_enter Try.func57, Try.ntmps57
        go_wp2_with fail
        refine CB.out.mono ?_
        rintro e w1 ⟨rfl, hb1⟩
        go_wp2_with fail
        rw [HD.out]
        refine (MF.out _).mono ?_
        rintro e w2 ⟨rfl, hb2⟩
        go_wp2_with fail
        exact ⟨rfl, under hb1 hb2, rfl⟩
      · clear gij
        go_enter Try.func57, Try.ntmps57
        go_wp2_with fail
        refine CB.out.mono ?_
        rintro e w1 ⟨rfl, hb1⟩
        go_wp2_with fail
        refine (MF.out _).mono ?_
        rintro e w2 ⟨rfl, hb2⟩
        go_wp2_with fail
        exact ⟨rfl, under hb1 hb2, rfl⟩
    · clear gij
      go_enter Try.func57, Try.ntmps57
      go_wp2_with fail
      refine CB.out.mono ?_
      rintro e w1 ⟨rfl, hb1⟩
      go_wp2_with fail
      refine (MF.out _).mono ?_
      rintro e w2 ⟨rfl, hb2⟩
      go_wp2_with fail
      exact ⟨rfl, under hb1 hb2, rfl⟩
end Go.Proofs.Ytlfjmdfplmdmgaa
