/-
 Layer 7: runs: the pieces of runs. Conditions: those written at each fact.
-/
import Derived.Test.YtcfidimnbamnkaaGreatNA
import Derived.Tactics2
import Derived.Defers
import Derived.Recover
import Derived.Laws.Pointers
import Derived.Maps.OwnIn
namespace Go.Proofs.YtcfidimnbamnkaaGreat.P7
open Go.RowKit Go.Shelf

theorem okB_facts {l : List Rn} (h : okB l = true) : l ≠ [] ∧ (∀ r ∈ l, RunOk r) ∧ totalR l ≤ 256 ∧ l.length ≤ 256 := by
 have key : ∀ (l : List Rn) (p : Option Rn) (n : Int), 0 ≤ n → n ≤ 256 → restB p n l = true → (∀ r ∈ l, RunOk r) ∧ n + totalR l ≤ 256 ∧ n + l.length ≤ 256 := by
  intro l
  induction l with
  | nil => intro p n h0 h1 _; simp [totalR]; omega
  | cons r l ih =>
   intro p n h0 h1 hb
   simp only [restB, Bool.and_eq_true] at hb
   obtain ⟨hb1, _, hb2⟩ := hb
   have hr := runB_ok (by omega) hb1
   have hc : r.c ≤ 256 - n := by unfold runB at hb1; simp only [Bool.and_eq_true, decide_eq_true_eq] at hb1; exact hb1.2.1
   obtain ⟨i1, i2, i3⟩ := ih (some r) (n + r.c) (by have := hr.1; omega) (by omega) hb2
   refine ⟨fun x hx => ?_, by simp only [totalR]; omega, by have := hr.1; simp only [List.length_cons]; omega⟩
   rcases List.mem_cons.1 hx with rfl | hx
   ·exact hr
   ·exact i1 x hx
 unfold okB at h
 simp only [Bool.and_eq_true, decide_eq_true_eq] at h
 obtain ⟨h1, h2⟩ := h
 obtain ⟨a, b, c⟩ := key l none 0 (by omega) (by omega) h2
 exact ⟨h1, a, by omega, by omega⟩
def PiecesEnd (w : World) (l : List Rn) (i j : Int) (e : Ending) (w' : World) : Prop :=
 Below w.heap.size w w' ∧ if okB l then (if 0 ≤ i ∧ i < j ∧ j ≤ totalR l then ∃ v, e = .returned v ∧ w'.ownsRow w.heap.size 44 3 v (piecesR l i j).length (flatR (piecesR l i j)) else e = thrown 2) else e = thrown 170

set_option maxRecDepth 100000 in
set_option maxHeartbeats 2000000 in
theorem pieces_any (l : List Rn) (hl : l.length ≤ 1000000) (i j : Int) (v : Value) (w : World) (h : ReadsR w v l) : Calls Tryz.prog 227 #[v, .int .i64 i, .int .i64 j] w (PiecesEnd w l i j) := by
 obtain ⟨i0, hi, hz0, hz1, hz2⟩ := info_parts infoRun
 have CA := Lib.hid (count_any l (by omega) v w h)
 have hrd := h
 obtain ⟨A, c, rfl, hc, hk⟩ := h
 cases gk : okB l
 ·have HK := Lib.hid gk
  clear gk
  go_enter Tryz.func227, Tryz.ntmps227
  go_wp2_with (go_at_call 117; refine CA.out.mono ?_; rintro e w1 ⟨he, hb⟩; rw [HK.out] at he; replace he : e = thrown 170 := he; subst he)
  exact ⟨rfl, hb, by rw [HK.out]; rfl⟩
 obtain ⟨hne, hR, hT, hl2⟩ := okB_facts gk
 have HK := Lib.hid gk
 have CB : Hid (Calls Tryz.prog 117 #[.slice A l.length c] w (Ret w (.int .i64 (totalR l)))) := Lib.hid (CA.out.mono fun e w' he => ⟨by rw [he.1, gk]; rfl, he.2⟩)
 have HRD := Lib.hid hrd
 clear gk CA hrd
 obtain ⟨n, hn⟩ : ∃ n, n = totalR l := ⟨_, rfl⟩
 rw [← hn] at CB hT
 by_cases gij : 0 ≤ i ∧ i < j ∧ j ≤ n
 ·obtain ⟨g1, g2, g3⟩ := gij
  have EP : Hid (PiecesEnd w l i j = fun e w' => Below w.heap.size w w' ∧ ∃ v, e = .returned v ∧ w'.ownsRow w.heap.size 44 3 v (piecesR l i j).length (flatR (piecesR l i j))) := Lib.hid (by
   funext e w'
   simp only [PiecesEnd, HK.out, if_true]
   rw [if_pos ⟨g1, g2, hn ▸ g3⟩])
  rw [EP.out]
  clear EP
  have hc1 : ∀ r ∈ l, 1 ≤ r.c := fun r hr => (hR r hr).1
  have WA := Lib.hid (fun W (hb : Below w.heap.size w W) => where_any l hl hR i g1 (by omega) (by omega) _ W (HRD.out.below hb))
  have WB := Lib.hid (fun W (hb : Below w.heap.size w W) => where_any l hl hR (j - 1) (by omega) (by omega) (by omega) _ W (HRD.out.below hb))
  obtain ⟨ra, a1, a2, a3⟩ := whereR_lt (l := l) hc1 g1 (by omega)
  obtain ⟨rb, b1, b2, b3⟩ := whereR_lt (l := l) hc1 (show 0 ≤ j - 1 by omega) (by omega)
  have hab := whereR_mono (l := l) (show i ≤ j - 1 by omega)
  have EQ : Hid (piecesR l i j = trimR ((l.drop (whereR l i).1).take ((whereR l (j - 1)).1 + 1 - (whereR l i).1)) (whereR l i).2 (whereR l (j - 1)).2) := Lib.hid rfl
  generalize whereR l i = xa at *
  generalize whereR l (j - 1) = xb at *
  obtain ⟨a, p⟩ := xa
  obtain ⟨b, q⟩ := xb
  simp only at a1 a2 a3 b1 b2 b3 hab WA WB EQ
  have hal : a < l.length := (List.getElem?_eq_some_iff.1 a1).1
  have hbl : b < l.length := (List.getElem?_eq_some_iff.1 b1).1
  have h1 : decide (0 ≤ i) = true := by simpa using g1
  have MT := Lib.hid (must_true 2)
  have hj1 : wrap64 (j - 1) = j - 1 := i64_keeps (by omega) (by omega)
  generalize piecesR l i j = PR at *
  clear hn
  go_enter Tryz.func227, Tryz.ntmps227
  go_wp2_with fail
  refine CB.out.mono ?_
  rintro e w1 ⟨rfl, hb1⟩
  go_wp2_with fail
  refine (MT.out _).mono ?_
  rintro e w2 ⟨rfl, hb2⟩
  have hb12 := under hb1 hb2
  go_wp2_with fail
  refine (WA.out _ hb12).mono ?_
  rintro e w3 ⟨rfl, hb3⟩
  have hb13 := under hb12 hb3
  go_wp2_with fail
  refine (WB.out _ hb13).mono ?_
  rintro e w4 ⟨rfl, hb4⟩
  have hb14 := under hb13 hb4
  clear hb1 hb2 hb3 hb4 hb12 hb13
  go_wp2_with fail
  obtain ⟨ad, had, hcl⟩ : ∃ ad, Option.map (fun x : Addr => x.add (a * 3)) A = some ad ∧ ∀ j u, (flatR ((l.drop a).take (b + 1 - a)))[j]? = some u → w.cell? (ad.add j) = some u ∧ ad.block < w.heap.size ∧ (ad.add j).block = ad.block := by
   obtain ⟨bb, off, rfl, hbw, _⟩ := hk a ra a1
   have hadd : ∀ j, (⟨bb, off, none⟩ : Addr).add j = ⟨bb, off + j, none⟩ := fun j => by unfold Addr.add; split <;> simp_all
   refine ⟨⟨bb, off + a * 3, none⟩, by simp [hadd], fun j u hj => ⟨?_, hbw, by unfold Addr.add; split <;> simp_all⟩⟩
   refine reads_flat (m := (l.drop a).take (b + 1 - a)) (fun i r hi => ?_) j u hj
   have hi2 : l[a + i]? = some r := by
    rw [List.getElem?_take] at hi
    split at hi
    ·rwa [List.getElem?_drop] at hi
    ·cases hi
   obtain ⟨bb', off', e1, _, e3, e4, e5⟩ := hk (a + i) r hi2
   cases e1
   rw [show off + a * 3 + i * 3 = off + (a + i) * 3 by omega]
   exact ⟨e3, e4, e5⟩
  have hml : ((l.drop a).take (b + 1 - a)).length = b + 1 - a := by rw [List.length_take, List.length_drop]; omega
  have hm0 : ((l.drop a).take (b + 1 - a))[0]? = some ra := by rw [List.getElem?_take, if_pos (by omega), List.getElem?_drop]; exact a1
  have hmj : ((l.drop a).take (b + 1 - a))[b - a]? = some rb := by rw [List.getElem?_take, if_pos (by omega), List.getElem?_drop, show a + (b - a) = b by omega]; exact b1
  have hab2 : b - a = 0 → ra = rb := fun e => by
   have : a = b := by omega
   subst this
   rw [a1] at b1
   exact Option.some.inj b1
  have hRa : RunOk ra := hR ra (List.mem_of_getElem? a1)
  have hRb : RunOk rb := hR rb (List.mem_of_getElem? b1)
  rw [had]
  obtain ⟨jj, hjj⟩ : ∃ jj, jj = b - a := ⟨_, rfl⟩
  have hN : b + 1 - a = jj + 1 := by omega
  have hjl : jj ≤ 256 := by omega
  rw [hN] at hcl hml hm0 hmj EQ ⊢
  rw [← hjj] at hmj hab2
  generalize (l.drop a).take (jj + 1) = m at *
  clear hk hR hc1 a1 b1 hne hl2 hal hbl hab hN hjj had HRD CB WA WB
  have hmk : ∀ W : World, (Instr.makeSlice 22 (.int .i64 ((jj + 1 : Nat) : Int)) (.int .i64 ((jj + 1 : Nat) : Int))).run Tryz.prog W = .ok (.slice (some ⟨W.heap.size, 0, none⟩) (jj + 1) (jj + 1)) (W.alloc (.cells (madeCells #[.int .i64 0, .int .i64 0, .int .i64 0] ((jj + 1) * 3)) 44)) := by
   intro W
   have := run_make (P := Tryz.prog) W 22 44 i0 (.agg #[.int .i64 0, .int .i64 0, .int .i64 0]) Tryz.underlying22 hi hz0 .i64 .i64 ((jj + 1 : Nat) : Int) ((jj + 1 : Nat) : Int) (by omega) (by omega) (by rw [hz2]; omega) (by omega)
   simpa [Value.cells, hz1] using this
  rw [hmk]
  have HEQ := EQ
  clear EQ
  have hcp : ∀ ty, (Builtin.copy_ #[22, 22] ty #[.slice (some ⟨w4.heap.size, 0, none⟩) (jj + 1) (jj + 1), .slice (some ad) (jj + 1) (jj + 1)]).run Tryz.prog (w4.alloc (.cells (madeCells #[.int .i64 0, .int .i64 0, .int .i64 0] ((jj + 1) * 3)) 44)) =
    .ok (goInt (jj + 1 : Nat)) ((w4.alloc (.cells (madeCells #[.int .i64 0, .int .i64 0, .int .i64 0] ((jj + 1) * 3)) 44)).setRow w4.heap.size (flatR m).toArray) := by
   intro ty
   have := run_copy_wide (P := Tryz.prog) (w4.alloc (.cells (madeCells #[.int .i64 0, .int .i64 0, .int .i64 0] ((jj + 1) * 3)) 44)) 22 22 ty 44 w4.heap.size 0 (jj + 1) (jj + 1) ad (jj + 1) (jj + 1) 3 _ _ (flatR m) Tryz.underlying22 (by rw [hi]; simp [hz1]) (World.alloc_heap_new w4 _)
    (by rw [flatR_length, hml]; simp) (fun j u hj => ?_) (by rw [flatR_length, hml, size_madeCells]; omega) (flatR_one m)
   ·rw [this]
    have e : ((madeCells #[.int .i64 0, .int .i64 0, .int .i64 0] ((jj + 1) * 3)).toList.take 0 ++ flatR m ++ (madeCells #[.int .i64 0, .int .i64 0, .int .i64 0] ((jj + 1) * 3)).toList.drop (0 + (flatR m).length)) = flatR m := by
     rw [List.drop_of_length_le (by rw [flatR_length, hml, Array.length_toList, size_madeCells]; omega)]
     simp
    rw [e, show Nat.min (jj + 1) (jj + 1) = jj + 1 by simp]
   ·obtain ⟨h1, h2, h3⟩ := hcl j u hj
    exact ((hb14.trans ((below_alloc w4 _).mono hb14.size)).cell (p := ad.add j) (by rw [h3]; exact h2)).trans h1
  obtain ⟨w5, hw5, HR5, hb5⟩ : ∃ w5, ((w4.alloc (.cells (madeCells #[.int .i64 0, .int .i64 0, .int .i64 0] ((jj + 1) * 3)) 44)).setRow w4.heap.size (flatR m).toArray) = w5 ∧ RowAt w5 w4.heap.size m ∧ Below w.heap.size w w5 := by
   refine ⟨_, rfl, setRow_heap _ _ _ _ _ _ (World.alloc_heap_new w4 _), ?_⟩
   have h4 := hb14.trans ((below_alloc w4 (.cells (madeCells #[.int .i64 0, .int .i64 0, .int .i64 0] ((jj + 1) * 3)) 44)).mono hb14.size)
   refine ⟨h4.os, h4.tape, h4.output, by have := h4.size; simpa [World.setRow] using this, fun k hk => ?_⟩
   exact (setRow_other _ _ _ _ (by have := hb14.size; omega)).trans (h4.block k hk)
  simp only [hw5] at hcp
  have hgB := hb14.size
  generalize w4.heap.size = g at *
  have hq1 : q ≤ 256 := by have := hRb.2.1; omega
  have hp1 : p ≤ 256 := by have := hRa.2.1; omega
  obtain ⟨r1, r2, r3, r4, r5, r6, r7⟩ := hRa
  obtain ⟨hgl, k0, k1, k2, kf⟩ := HR5.cells hmj
  obtain ⟨w6, hw6⟩ : ∃ w6, w5.setCell ⟨g, jj * 3 + 2, none⟩ (.int .i64 (q + 1)) = w6 := ⟨_, rfl⟩
  have HR6 : RowAt w6 g (m.set jj ⟨rb.f, rb.s, q + 1⟩) := hw6 ▸ HR5.setC hmj (q + 1)
  have hb6 : Below w.heap.size w w6 := hw6 ▸ hb5.setCell (p := ⟨g, jj * 3 + 2, none⟩) hgB _
  obtain ⟨c0, h0, hc0⟩ : ∃ c0, (m.set jj ⟨rb.f, rb.s, q + 1⟩)[0]? = some ⟨ra.f, ra.s, c0⟩ ∧ 0 ≤ c0 ∧ c0 ≤ 300 := by
   by_cases e : jj = 0
   ·subst e
    refine ⟨q + 1, ?_, by omega, by omega⟩
    rw [List.getElem?_set_self (by omega), hab2 rfl]
   ·refine ⟨ra.c, ?_, by omega, by omega⟩
    rw [List.getElem?_set_ne e, hm0]
  obtain ⟨_, l0, l1, l2, lf⟩ := HR6.cells h0
  simp only [Nat.zero_mul, Nat.zero_add] at l0 l1 l2
  have HE : Hid (PR = (((m.set jj ⟨rb.f, rb.s, q + 1⟩).set 0 ⟨ra.f + p * ra.s, ra.s, c0⟩).set 0 ⟨ra.f + p * ra.s, ra.s, c0 - p⟩)) := Lib.hid (by
   have e := HEQ.out
   unfold trimR at e
   rw [hml, show jj + 1 - 1 = jj by omega, hmj] at e
   simp only at e
   rw [e]
   generalize m.set jj ⟨rb.f, rb.s, q + 1⟩ = m1 at h0
   cases m1 with
   | nil => simp at h0
   | cons x t =>
    simp at h0
    subst h0
    rfl)
  have hml1 : (m.set jj ⟨rb.f, rb.s, q + 1⟩).length = jj + 1 := by rw [List.length_set]; exact hml
  have H0 := Lib.hid h0
  generalize m.set jj ⟨rb.f, rb.s, q + 1⟩ = m1 at *
  have NT := Lib.hid (nth_at ra.f ra.s c0 p a2 (by omega) (by omega) r5 r3 r7)
  clear hcl hmk hb14 hw5 hmj hm0 hab2 hRb hml HEQ h0 hb5
  generalize ra.f + p * ra.s = x at *
  go_wp2_with (at_builtin; refine Lib.wpList_copy_run _ rfl _ _ 22 22 rfl _ _ rfl rfl (hcp _) ?_)
  refine (NT.out _).mono ?_
  rintro e w7 ⟨rfl, hb7⟩
  have HR7 : RowAt w7 g m1 := (hb7.block g (Array.getElem?_eq_some_iff.1 HR6).1).trans HR6
  have hb67 := hb6.trans (hb7.mono hb6.size)
  obtain ⟨_, n0, n1, n2, nf⟩ := HR7.cells H0.out
  simp only [Nat.zero_mul, Nat.zero_add] at n0 n1 n2
  obtain ⟨w8, hw8⟩ : ∃ w8, w7.setCell ⟨g, 0, none⟩ (.int .i64 x) = w8 := ⟨_, rfl⟩
  have HR8 : RowAt w8 g (m1.set 0 ⟨x, ra.s, c0⟩) := by have := HR7.setF H0.out x; rwa [Nat.zero_mul, hw8] at this
  have hb8 : Below w.heap.size w w8 := hw8 ▸ hb67.setCell (p := ⟨g, 0, none⟩) hgB _
  have h08 : (m1.set 0 ⟨x, ra.s, c0⟩)[0]? = some ⟨x, ra.s, c0⟩ := List.getElem?_set_self (by rw [hml1]; omega)
  obtain ⟨_, o0, o1, o2, of⟩ := HR8.cells h08
  simp only [Nat.zero_mul, Nat.zero_add] at o0 o1 o2
  have HR9 : RowAt (w8.setCell ⟨g, 2, none⟩ (.int .i64 (c0 - p))) g ((m1.set 0 ⟨x, ra.s, c0⟩).set 0 ⟨x, ra.s, c0 - p⟩) := by have := HR8.setC h08 (c0 - p); rwa [Nat.zero_mul, Nat.zero_add] at this
  have hb9 : Below w.heap.size w (w8.setCell ⟨g, 2, none⟩ (.int .i64 (c0 - p))) := hb8.setCell (p := ⟨g, 2, none⟩) hgB _
  have HR := Lib.hid HR9
  have HB := Lib.hid hb9
  have HL := Lib.hid (show ((m1.set 0 ⟨x, ra.s, c0⟩).set 0 ⟨x, ra.s, c0 - p⟩).length = jj + 1 by rw [List.length_set, List.length_set]; exact hml1)
  clear HR9 hb9 HR8 hb8 HR7 hb67 hb7 hb6 HR6 HR5 l0 l1 l2 lf k0 k1 k2 kf hw6 hcp NT H0 hml1 h08
  obtain ⟨hc1, hc2⟩ := hc0
  go_wp2_with fail
  go_ret
  have ho := HR.out.owns hgB (by rw [HL.out]; unfold maxLen; omega)
  rw [HL.out] at ho
  rw [HE.out, HL.out]
  exact ⟨HB.out, _, rfl, ho⟩
 ·have MF := Lib.hid (must_false 2)
  have EP : Hid (PiecesEnd w l i j = fun e w' => Below w.heap.size w w' ∧ e = thrown 2) := Lib.hid (by
   funext e w'
   simp only [PiecesEnd, HK.out, if_true]
   rw [if_neg (hn ▸ gij)])
  rw [EP.out]
  clear EP HRD hk hne hR hT hl2
  by_cases h0 : 0 ≤ i
  ·have d0 : decide (0 ≤ i) = true := by simpa using h0
   by_cases h1 : i < j
   ·have d2 : ¬ j ≤ n := fun h => gij ⟨h0, h1, h⟩
    have HD := Lib.hid (decide_eq_false d2)
    clear gij d2 hn
    go_enter Tryz.func227, Tryz.ntmps227
    go_wp2_with fail
    refine CB.out.mono ?_
    rintro e w1 ⟨rfl, hb1⟩
    go_wp2_with fail
    rw [HD.out]
    refine (MF.out _).mono ?_
    rintro e w2 ⟨rfl, hb2⟩
    go_wp2_with fail
    exact ⟨rfl, under hb1 hb2, rfl⟩
   ·clear gij
    go_enter Tryz.func227, Tryz.ntmps227
    go_wp2_with fail
    refine CB.out.mono ?_
    rintro e w1 ⟨rfl, hb1⟩
    go_wp2_with fail
    refine (MF.out _).mono ?_
    rintro e w2 ⟨rfl, hb2⟩
    go_wp2_with fail
    exact ⟨rfl, under hb1 hb2, rfl⟩
  ·clear gij
   go_enter Tryz.func227, Tryz.ntmps227
   go_wp2_with fail
   refine CB.out.mono ?_
   rintro e w1 ⟨rfl, hb1⟩
   go_wp2_with fail
   refine (MF.out _).mono ?_
   rintro e w2 ⟨rfl, hb2⟩
   go_wp2_with fail
   exact ⟨rfl, under hb1 hb2, rfl⟩
end Go.Proofs.YtcfidimnbamnkaaGreat.P7

/-
 Layer 7: runs: the iterator over the times of runs. Conditions: those written at each fact.
-/
namespace Go.Proofs.YtcfidimnbamnkaaGreat.P7
open Go.RowKit Go.Shelf
attribute [local go_sem] Oper.semAt_some

set_option maxHeartbeats 1000000 in
theorem all_any (v : Value) (w : World) (A : Option Addr) (n c : Nat) (hv : v = .slice A n c) :
  Calls Tryz.prog 133 #[v] w fun e w' => e = .returned (.func (.func 181) #[] #[.pointer (some ⟨w.heap.size, 0, none⟩)]) ∧ w' = w.alloc (.cells #[v] 22) := by
 subst hv
 go_enter Tryz.func133, Tryz.ntmps133
 go_wp2
 go_ret
 exact ⟨rfl, rfl⟩

theorem abides_below {β : Type} {B : Nat} {J : β → World → Prop} (hJ : AbidesFrom B J) {s : β} {W W' : World} (h : J s W) (hb : Below W.heap.size W W') : J s W' :=
 hJ s W W' none h ⟨hb.os, hb.tape, hb.output, hb.size, fun k hk _ => hb.block k hk⟩ (fun _ e => by cases e)
theorem index_less {k n : Nat} (h : k < n) : n - (intOf (Value.int .i64 ((k : Int) + 1))).toNat < n - (intOf (Value.int .i64 (k : Int))).toNat := by simp [intOf]; omega
theorem steps_in {i : Nat} {d : Int} (h : (i : Int) < d) : i + 1 ≤ d.toNat ∧ d.toNat - (intOf (Value.int .i64 ((i : Int) + 1))).toNat < d.toNat - (intOf (Value.int .i64 (i : Int))).toNat := by simp [intOf]; omega
theorem index_next {i : Nat} {d : Int} (h : (i : Int) < d) (h2 : d ≤ 256) : (0 : Int) ≤ (i : Int) ∧ (i : Int) ≤ 1000 ∧ wrap64 ((i : Int) + 1) = (i : Int) + 1 := ⟨by omega, by omega, i64_keeps (by omega) (by omega)⟩
def BoxR (W : World) (B : Nat) (r : Rn) : Prop := W.heap[B]? = some (.cells #[.int .i64 r.f, .int .i64 r.s, .int .i64 r.c] 44 (0, 0))
theorem BoxR.cells {W : World} {B : Nat} {r : Rn} (h : BoxR W B r) : W.cell? ⟨B, 0, none⟩ = some (.int .i64 r.f) ∧ W.cell? ⟨B, 1, none⟩ = some (.int .i64 r.s) ∧ W.cell? ⟨B, 2, none⟩ = some (.int .i64 r.c) := by
 have e : W.heap[B]? = _ := h
 simp [World.cell?, e]
theorem BoxR.next {X : World → Nat → Prop} {W W' : World} {B : Nat} {r : Rn} (h : BoxR W B r) (hx : ¬ X W B) (k : KeepsC X W W') : BoxR W' B r ∧ ¬ X W' B :=
 ⟨k.2.2 B _ h rfl hx, fun hx2 => by
  rcases k.2.1 B hx2 with h1 | h1
  ·exact hx h1
  ·have := (Array.getElem?_eq_some_iff.1 h).1; omega⟩

set_option maxRecDepth 100000 in
set_option maxHeartbeats 2000000 in
theorem all1_stops {α : Type} (val : α → Int × Int) (full : List α) (X : World → Nat → Prop) (b : Nat) (hX : Hangs X b) (l : List Rn) (hl : l.length ≤ 1000000) (hR : ∀ r ∈ l, RunOk r) (hF : full.map val = numR 0 (timesR l)) (hT : full.length ≤ 1000000) (A : Option Addr) (c : Nat) (Bl : Nat) (w : World) (hb : b < w.heap.size)
  (hst : Stand X A c l w) (hbl : Boxed w Bl 22 (.slice A l.length c)) :
  SeqStopsK Fence.wide 8 Tryz.prog 181 #[.pointer (some ⟨Bl, 0, none⟩)] (fun z : α => #[Value.int .i64 (val z).1, Value.int .i64 (val z).2]) (KeepsC X) (fun ys => ys = full) (fun pre => pre <+: full) full.length w := by
 intro g J Jx W hW hJa hJxa hY h0
 have hbW : b < W.heap.size := Nat.lt_of_lt_of_le hb hW.size
 have hst' : Stand X A c l W := hst.next (KeepsC.of_below hX hb hW)
 have hbl' : Boxed W Bl 22 (.slice A l.length c) := (hW.block Bl hbl.lt).trans hbl
 have hWs : ∀ W2 : World, W.heap.size ≤ W2.heap.size → b < W2.heap.size := fun W2 h => Nat.lt_of_lt_of_le hbW h
 clear hst hbl hW
 refine callsIn_of_wp Tryz.func181 rfl trivial ?_ rfl
 simp only [Tryz.ntmps181, List.size_toArray, List.length_cons, List.length_nil, Nat.reduceAdd, Nat.reduceSub, Array.replicate_succ, Array.replicate_zero, List.push_toArray, List.append_toArray, List.nil_append, List.cons_append]
 have hcb := hbl'.cell
 have HY := Lib.hid hY
 have HJA := Lib.hid hJa
 have HR := Lib.hid hR
 have HT := Lib.hid hT
 clear hY hJa hJxa hR hT
 gi_wp2
 gi_loopw [3, 9] (fun p i wr => ∃ (k q : Nat) (pre : List α), p = .int .i64 q ∧ i = .int .i64 k ∧ k ≤ l.length ∧ Hid (pre.length = q ∧ ∃ rest, pre ++ rest = full ∧ rest.map val = numR q (timesR (l.drop k))) ∧ J pre wr ∧ Hid (Stand X A c l wr) ∧ W.heap.size ≤ wr.heap.size)
  (fun _ i _ => l.length - (intOf i).toNat)
 case atStart => exact ⟨0, 0, [], rfl, rfl, by omega, Lib.hid ⟨rfl, full, rfl, by simpa using hF⟩, h0, Lib.hid hst', Nat.le_refl _⟩
 case round =>
  obtain ⟨k, q, pre, rfl, rfl, hkl, hp, hJ, hSt, hsz⟩ := hrel
  clear hcb h0 hst' hbl' hF
  by_cases gk : k < l.length
  ·obtain ⟨⟨f, s, d⟩, hx⟩ : ∃ s, l[k]? = some s := ⟨_, List.getElem?_eq_getElem gk⟩
   obtain ⟨A', c', e', hc', hk⟩ := hSt.out.reads
   cases e'
   obtain ⟨bb, off, rfl, hbw, c1, c2, c3⟩ := hk k _ hx
   simp only at c1 c2 c3
   have i1 : (k : Int) < (l.length : Int) := by omega
   have i0 : (0 : Int) ≤ (k : Int) := by omega
   obtain ⟨o1, o2, o3, o4, o5, o6, o7⟩ : RunOk ⟨f, s, d⟩ := HR.out _ (List.mem_of_getElem? hx)
   simp only at o1 o2 o3 o4 o5 o6 o7
   clear o6
   have o4' : -281474976710656 ≤ s := by omega
   have hdr : l.drop k = ⟨f, s, d⟩ :: l.drop (k + 1) := by
    obtain ⟨hlt, e⟩ := List.getElem?_eq_some_iff.1 hx
    rw [List.drop_eq_getElem_cons hlt, e]
   have hp2 : pre.length = q ∧ ∃ rest, pre ++ rest = full ∧ rest.map val = numR q (stepsR f s d.toNat ++ timesR (l.drop (k + 1))) := by
    have := hp.out
    rwa [hdr] at this
   have HP := Lib.hid hp2
   clear hp hp2 hdr hk hx
   obtain ⟨wo, hwo⟩ : ∃ x, x = wr := ⟨_, rfl⟩
   subst hwo
   have hbx0 : BoxR (wo.alloc (.cells #[.int .i64 f, .int .i64 s, .int .i64 d] 44)) wo.heap.size ⟨f, s, d⟩ := World.alloc_heap_new wo _
   have hxb0 : ¬ X (wo.alloc (.cells #[.int .i64 f, .int .i64 s, .int .i64 d] 44)) wo.heap.size := fun h => by
    have := hSt.out.small _ (hX wo _ _ ((below_alloc wo _).block b (hWs wo hsz)) h); omega
   have hst0 := hSt.out.next (KeepsC.of_below hX (hWs wo hsz) (below_alloc wo (.cells #[.int .i64 f, .int .i64 s, .int .i64 d] 44)))
   have hJ0 : J pre (wo.alloc (.cells #[.int .i64 f, .int .i64 s, .int .i64 d] 44)) := abides_below HJA.out hJ (below_alloc wo _)
   have HB := Lib.hid (And.intro hbx0 hxb0)
   have HS0 := Lib.hid hst0
   have HWS := Lib.hid hWs
   clear hbx0 hxb0 hst0 hWs hSt hJ
   gi_wp2
   gi_loopw [3, 15] (fun p j wi => ∃ (i q2 : Nat) (pre2 : List α), p = .int .i64 q2 ∧ j = .int .i64 i ∧ i ≤ d.toNat ∧ Hid (pre2.length = q2 ∧ ∃ rest, pre2 ++ rest = full ∧ rest.map val = numR q2 (stepsR (f + i * s) s (d - i).toNat ++ timesR (l.drop (k + 1)))) ∧ J pre2 wi ∧ Hid (Stand X (some ⟨bb, off, none⟩) c l wi) ∧ Hid (BoxR wi wo.heap.size ⟨f, s, d⟩ ∧ ¬ X wi wo.heap.size) ∧ wo.heap.size + 1 ≤ wi.heap.size)
    (fun _ j _ => d.toNat - (intOf j).toNat)
   case atStart => exact ⟨0, q, pre, rfl, rfl, by omega, Lib.hid (by simpa using HP.out), hJ0, HS0, HB, by simp⟩
   case round =>
    obtain ⟨i, q2, pre2, rfl, rfl, hid, hp, hJ, hSt, hBx, hsz2⟩ := hrel
    clear HP hJ0 HS0 HB c1 c2 c3
    obtain ⟨b1, b2, b3⟩ := hBx.out.1.cells
    simp only at b1 b2 b3
    by_cases gi : (i : Int) < d
    ·obtain ⟨x, rest2, hx2, hxv, hp2⟩ : ∃ x rest2, val x = ((q2 : Int), f + i * s) ∧ pre2 ++ x :: rest2 = full ∧ pre2.length = q2 ∧ rest2.map val = numR (q2 + 1) (stepsR (f + ((i + 1 : Nat) : Int) * s) s (d - ((i + 1 : Nat) : Int)).toNat ++ timesR (l.drop (k + 1))) := by
      obtain ⟨h1, rest, h2, h3⟩ := hp.out
      rw [steps_next f s d i gi] at h3
      cases rest with
      | nil => simp [numR] at h3
      | cons x rest2 =>
       simp only [List.map_cons, List.cons_append, numR, List.cons.injEq] at h3
       exact ⟨x, rest2, h3.1, h2, h1, h3.2⟩
     have hln : pre2.length < full.length := by rw [← hxv]; simp
     have hq : q2 < 1000000 := Nat.lt_of_lt_of_le (hp2.1 ▸ hln) HT.out
     have HXV := Lib.hid hxv
     obtain ⟨ix0, ix1, ei⟩ := index_next gi o2
     clear ei
     have NT := Lib.hid (nth_at f s d (i : Int) ix0 ix1 o4' o5 o3 o7)
     have HP := Lib.hid hp2
     have HLN := Lib.hid hln
     clear hp hp2 hln hxv
     gi_wp2_with fail
     refine ⟨trivial, ?_⟩
     refine (callsIn_wide.2 (NT.out _)).mono ?_
     rintro en w3 ⟨rfl, hb3⟩
     have hkc := KeepsC.of_below hX (HWS.out wr (by omega)) hb3
     have hJ3 := abides_below HJA.out hJ hb3
     have hSt3 := hSt.out.next hkc
     have hBx3 := hBx.out.1.next hBx.out.2 hkc
     have hsz3 := Nat.le_trans hsz2 hb3.size
     obtain ⟨fn, tmps, assign, body, hyl, hR⟩ := HY.out pre2 x w3 hJ3 HLN.out
     rw [hx2] at hyl
     have HS3 := Lib.hid hSt3
     have HB3 := Lib.hid hBx3
     have HI := Lib.hid (steps_in gi)
     clear hSt3 hBx3 hkc hJ3 hJ hSt hBx b1 b2 b3 hb3 HY HJA HLN NT
     gi_wp2
     refine hR.mono ?_
     rintro e W3 (⟨rfl, hJ4, hk4⟩ | ⟨rfl, hJx4⟩)
     ·have HX2 := Lib.hid hx2
      clear hx2
      have HS4 := Lib.hid (HS3.out.next hk4)
      have HB4 := Lib.hid (HB3.out.1.next HB3.out.2 hk4)
      have hsz4 := Nat.le_trans hsz3 hk4.1
      have E : Hid ((pre2 ++ [x]).length = q2 + 1 ∧ ∃ rest, (pre2 ++ [x]) ++ rest = full ∧ rest.map val = numR (q2 + 1) (stepsR (f + ((i + 1 : Nat) : Int) * s) s (d - ((i + 1 : Nat) : Int)).toNat ++ timesR (l.drop (k + 1)))) :=
       Lib.hid ⟨by rw [List.length_append, HP.out.1]; rfl, rest2, by rw [List.append_assoc]; exact HXV.out, HP.out.2⟩
      clear hk4 HP
      gi_wp2
      go_roundw
      case rel => exact ⟨i + 1, q2 + 1, _, by simp, by simp, HI.out.1, E, hJ4, HS4, HB4, hsz4⟩
      case measure => exact HI.out.2
     ·gi_wp2
      refine bodyPost_ret (results_none rfl _ _ _) rfl ?_
      exact ⟨⟨_, rfl⟩, .inr ⟨_, ⟨_, (List.append_assoc ..).trans HXV.out⟩, hJx4⟩⟩
    ·have E : Hid (pre2.length = q2 ∧ ∃ rest, pre2 ++ rest = full ∧ rest.map val = numR q2 (timesR (l.drop (k + 1)))) := Lib.hid (by
      have := hp.out
      rwa [steps_none f s d i gi, List.nil_append] at this)
     clear hp
     gi_wp2
     go_roundw
     case rel => exact ⟨k + 1, q2, pre2, rfl, by simp, gk, E, hJ, hSt, Nat.le_trans (Nat.le_trans hsz (Nat.le_succ _)) hsz2⟩
     case measure => exact index_less gk
  ·have hkk : k = l.length := by omega
   have e := hp.out
   rw [hkk, List.drop_length] at e
   have E : Hid (pre = full) := Lib.hid (by
    obtain ⟨_, rest, h2, h3⟩ := e
    simp only [timesR, numR, List.map_eq_nil_iff] at h3
    rw [h3, List.append_nil] at h2
    exact h2)
   have i1 : ¬ (k : Int) < (l.length : Int) := by omega
   clear e hkk hp HY
   gi_wp2
   go_end0
   exact ⟨⟨_, rfl⟩, .inl (E.out ▸ hJ)⟩
end Go.Proofs.YtcfidimnbamnkaaGreat.P7

/-
 Layer 7: runs: the times of runs come to a row that grows, one by one. Conditions: those written at each fact.
-/
namespace Go.Proofs.YtcfidimnbamnkaaGreat.P7
open Go.RowKit Go.Shelf
attribute [local go_sem] Oper.semAt_some

theorem cells_kept {W W' : World} {row : Option Nat} (hgr : W.grownBy W' row) (hr : ∀ r, row = some r → ∃ o : Obj, W.heap[r]? = some o ∧ o.isCells = false) {k : Nat} {o : Obj} (ho : W.heap[k]? = some o) (hc : o.isCells = true) : W'.heap[k]? = some o :=
 (hgr.block k (Array.getElem?_eq_some_iff.1 ho).1 (fun e => by
  obtain ⟨o2, h2, h3⟩ := hr k e.symm
  rw [ho] at h2; cases h2; rw [hc] at h3; cases h3)).trans ho
theorem numR_map : ∀ (k : Nat) (l : List Int), (numR k l).map (·.2) = l
 | _, [] => rfl
 | k, t :: l => by simp [numR, numR_map (k + 1) l]

abbrev TM := { z : Int × Int // 0 ≤ z.2 ∧ z.2 ≤ 281474976710656 }
end Go.Proofs.YtcfidimnbamnkaaGreat.P7

/-
 Layer 7: runs: what is made, or the error by which the making was left. Conditions: those written at each fact.
-/
namespace Go.Proofs.YtcfidimnbamnkaaGreat.P7
open Go.RowKit
set_option linter.unusedSimpArgs false
def Throws (w : World) (G : Value → World → Prop) (B : Int → Prop) (e : Ending) (w' : World) : Prop :=
 Below w.heap.size w w' ∧ ((∃ v, e = .returned v ∧ G v w') ∨ (∃ code, e = thrown code ∧ B code))
def Told (w : World) (Z : Value) (G : Value → World → Prop) (B : Int → Prop) (e : Ending) (w' : World) : Prop :=
 Below w.heap.size w w' ∧ ((∃ v, e = .returned (.tuple #[v, .int .i64 0]) ∧ G v w') ∨ (∃ code, e = .returned (.tuple #[Z, .int .i64 code]) ∧ B code))
theorem assert_errno (v : Value) (W : World) : (Instr.typeAssert (.iface 31 v) 20 31 false).run Tryz.prog W = .ok v W := by kernel_rfl
theorem below_set_new {w w1 w' : World} {v : Value} (h : Below w.heap.size w w1) (hb : Below w1.heap.size w1 w') : Below w.heap.size w (w'.setCell ⟨w.heap.size, 0, none⟩ v) :=
 (under h hb).setCell (p := ⟨w.heap.size, 0, none⟩) (Nat.le_refl _) v

theorem catch_I_panicking (p : Addr) (x code : Int) (older : List PanicEntry) (w : World) (hc : w.cell? p = some (.int .i64 x)) (hz : w.frozen? p = false) :
  CallsD Tryz.prog 162 #[.pointer (some p)] (.panicking ({ v := .iface 31 (.int .i64 code), recovered := false } :: older)) w fun e u' w' =>
   e = .returned (.tuple #[]) ∧ u' = .panicking ({ v := .iface 31 (.int .i64 code), recovered := true } :: older) ∧ w' = w.setCell p (.int .i64 code) := by
 refine callsD_of_wpS Tryz.func162 rfl fun c₀ cs hu => ?_
 apply wpS_seq
 apply wpS_region
 simp [wpOpsS, go_sem, recoverD, hu, Tryz.ntmps162, Exit.thenS]
 apply wpS_seq
 apply wpS_region
 simp [wpOpsS, go_sem, Exit.thenS]
 refine wpS_cond (t := true) (by simp [Act.eval, Array.replicate]) ?_
 simp only [if_true]
 apply wpS_region
 simp [wpOpsS, go_sem, assert_errno, hc, hz, bodyPostS, results, Tryz.results162]
theorem catch_I_idle (p : Addr) (w : World) :
  CallsD Tryz.prog 162 #[.pointer (some p)] .returning w fun e u' w' => e = .returned (.tuple #[]) ∧ u' = .returning ∧ w' = w := by
 refine callsD_of_wpS Tryz.func162 rfl fun c₀ cs hu => ?_
 apply wpS_seq
 apply wpS_region
 simp [wpOpsS, go_sem, recoverD, hu, Tryz.ntmps162, Exit.thenS]
 apply wpS_seq
 apply wpS_region
 simp [wpOpsS, go_sem, Exit.thenS]
 refine wpS_cond (t := false) (by simp [Act.eval, Array.replicate]) ?_
 simp only [Bool.false_eq_true, if_false]
 refine wpS_of_wp (wp_skip ?_)
 cases c₀
 simp_all [bodyPostS, results, Tryz.results162]
set_option maxHeartbeats 1000000 in
theorem told_I (K : Nat) (caps : Array Value) (eK : ∀ args w, (callFunc K args).run Tryz.prog w = .ok (.enter K args) w) (w : World) (G : Value → World → Prop) (B : Int → Prop)
  (hG : ∀ v w', Below (w.alloc (.cells #[.int .i64 0] 31)).heap.size (w.alloc (.cells #[.int .i64 0] 31)) w' → G v w' → G v (w'.setCell ⟨w.heap.size, 0, none⟩ (.int .i64 0)))
  (h : Calls Tryz.prog K caps (w.alloc (.cells #[.int .i64 0] 31)) (Throws (w.alloc (.cells #[.int .i64 0] 31)) G B)) :
  Calls Tryz.prog 115 #[.func (.func K) #[] caps] w (Told w (.int .i64 0) G B) := by
 have hmf : ∀ (fn : Fn) (first cap : Array Value) (w : World), (Instr.makeFunc fn first cap).run Tryz.prog w = .ok (.func fn first cap) w := fun _ _ _ _ => rfl
 go_enter_defers Tryz.func115, Tryz.ntmps115
 go_wp2_with fail
 refine h.mono ?_
 rintro en w1 ⟨hb, (⟨v, rfl, hg⟩ | ⟨code, rfl, hbad⟩)⟩
 ·have c0 := (hb.cell (p := ⟨w.heap.size, 0, none⟩) (by simp)).trans (show _ = some (Value.int .i64 0) by simp [go_sem])
  have z0 := (hb.frozen (p := ⟨w.heap.size, 0, none⟩) (by simp)).trans (show _ = false by simp [go_sem])
  go_wp2_with fail
  refine leaves_cons (f := 162) (args := #[.pointer (some ⟨w.heap.size, 0, none⟩)]) (by simp) (by simp [go_sem]) ?_
  refine (catch_I_idle ⟨w.heap.size, 0, none⟩ _).mono ?_
  rintro e u' w'' ⟨rfl, rfl, rfl⟩
  have c1 : (w1.setCell ⟨w.heap.size, 0, none⟩ (.int .i64 0)).cell? ⟨w.heap.size, 0, none⟩ = some (.int .i64 0) := World.cell?_setCell_same' _ _ _ (by rw [c0]; rfl)
  simp [Leaves, settle, results, Tryz.results115, go_sem, c1]
  exact ⟨below_set_new (below_alloc w _) hb, .inl ⟨v, rfl, hG v w1 hb hg⟩⟩
 ·have c0 := (hb.cell (p := ⟨w.heap.size, 0, none⟩) (by simp)).trans (show _ = some (Value.int .i64 0) by simp [go_sem])
  have z0 := (hb.frozen (p := ⟨w.heap.size, 0, none⟩) (by simp)).trans (show _ = false by simp [go_sem])
  go_wp2_with fail
  refine leaves_cons (f := 162) (args := #[.pointer (some ⟨w.heap.size, 0, none⟩)]) (by simp) (by simp [go_sem]) ?_
  refine (catch_I_panicking ⟨w.heap.size, 0, none⟩ 0 code [] _ c0 z0).mono ?_
  rintro e u' w'' ⟨rfl, rfl, rfl⟩
  have c1 : (w1.setCell ⟨w.heap.size, 0, none⟩ (.int .i64 code)).cell? ⟨w.heap.size, 0, none⟩ = some (.int .i64 code) := World.cell?_setCell_same' _ _ _ (by rw [c0]; rfl)
  simp [Leaves, settle, results, Tryz.results115, go_sem, c1]
  exact ⟨below_set_new (below_alloc w _) hb, .inr ⟨code, rfl, hbad⟩⟩

theorem catch_T_panicking (p : Addr) (x code : Int) (older : List PanicEntry) (w : World) (hc : w.cell? p = some (.int .i64 x)) (hz : w.frozen? p = false) :
  CallsD Tryz.prog 170 #[.pointer (some p)] (.panicking ({ v := .iface 31 (.int .i64 code), recovered := false } :: older)) w fun e u' w' =>
   e = .returned (.tuple #[]) ∧ u' = .panicking ({ v := .iface 31 (.int .i64 code), recovered := true } :: older) ∧ w' = w.setCell p (.int .i64 code) := by
 refine callsD_of_wpS Tryz.func170 rfl fun c₀ cs hu => ?_
 apply wpS_seq
 apply wpS_region
 simp [wpOpsS, go_sem, recoverD, hu, Tryz.ntmps170, Exit.thenS]
 apply wpS_seq
 apply wpS_region
 simp [wpOpsS, go_sem, Exit.thenS]
 refine wpS_cond (t := true) (by simp [Act.eval, Array.replicate]) ?_
 simp only [if_true]
 apply wpS_region
 simp [wpOpsS, go_sem, assert_errno, hc, hz, bodyPostS, results, Tryz.results170]
theorem catch_T_idle (p : Addr) (w : World) :
  CallsD Tryz.prog 170 #[.pointer (some p)] .returning w fun e u' w' => e = .returned (.tuple #[]) ∧ u' = .returning ∧ w' = w := by
 refine callsD_of_wpS Tryz.func170 rfl fun c₀ cs hu => ?_
 apply wpS_seq
 apply wpS_region
 simp [wpOpsS, go_sem, recoverD, hu, Tryz.ntmps170, Exit.thenS]
 apply wpS_seq
 apply wpS_region
 simp [wpOpsS, go_sem, Exit.thenS]
 refine wpS_cond (t := false) (by simp [Act.eval, Array.replicate]) ?_
 simp only [Bool.false_eq_true, if_false]
 refine wpS_of_wp (wp_skip ?_)
 cases c₀
 simp_all [bodyPostS, results, Tryz.results170]
set_option maxHeartbeats 1000000 in
theorem told_T (K : Nat) (caps : Array Value) (eK : ∀ args w, (callFunc K args).run Tryz.prog w = .ok (.enter K args) w) (w : World) (G : Value → World → Prop) (B : Int → Prop)
  (hG : ∀ v w', Below (w.alloc (.cells #[.int .i64 0] 31)).heap.size (w.alloc (.cells #[.int .i64 0] 31)) w' → G v w' → G v (w'.setCell ⟨w.heap.size, 0, none⟩ (.int .i64 0)))
  (h : Calls Tryz.prog K caps (w.alloc (.cells #[.int .i64 0] 31)) (Throws (w.alloc (.cells #[.int .i64 0] 31)) G B)) :
  Calls Tryz.prog 123 #[.func (.func K) #[] caps] w (Told w (.int .i64 0) G B) := by
 have hmf : ∀ (fn : Fn) (first cap : Array Value) (w : World), (Instr.makeFunc fn first cap).run Tryz.prog w = .ok (.func fn first cap) w := fun _ _ _ _ => rfl
 go_enter_defers Tryz.func123, Tryz.ntmps123
 go_wp2_with fail
 refine h.mono ?_
 rintro en w1 ⟨hb, (⟨v, rfl, hg⟩ | ⟨code, rfl, hbad⟩)⟩
 ·have c0 := (hb.cell (p := ⟨w.heap.size, 0, none⟩) (by simp)).trans (show _ = some (Value.int .i64 0) by simp [go_sem])
  have z0 := (hb.frozen (p := ⟨w.heap.size, 0, none⟩) (by simp)).trans (show _ = false by simp [go_sem])
  go_wp2_with fail
  refine leaves_cons (f := 170) (args := #[.pointer (some ⟨w.heap.size, 0, none⟩)]) (by simp) (by simp [go_sem]) ?_
  refine (catch_T_idle ⟨w.heap.size, 0, none⟩ _).mono ?_
  rintro e u' w'' ⟨rfl, rfl, rfl⟩
  have c1 : (w1.setCell ⟨w.heap.size, 0, none⟩ (.int .i64 0)).cell? ⟨w.heap.size, 0, none⟩ = some (.int .i64 0) := World.cell?_setCell_same' _ _ _ (by rw [c0]; rfl)
  simp [Leaves, settle, results, Tryz.results123, go_sem, c1]
  exact ⟨below_set_new (below_alloc w _) hb, .inl ⟨v, rfl, hG v w1 hb hg⟩⟩
 ·have c0 := (hb.cell (p := ⟨w.heap.size, 0, none⟩) (by simp)).trans (show _ = some (Value.int .i64 0) by simp [go_sem])
  have z0 := (hb.frozen (p := ⟨w.heap.size, 0, none⟩) (by simp)).trans (show _ = false by simp [go_sem])
  go_wp2_with fail
  refine leaves_cons (f := 170) (args := #[.pointer (some ⟨w.heap.size, 0, none⟩)]) (by simp) (by simp [go_sem]) ?_
  refine (catch_T_panicking ⟨w.heap.size, 0, none⟩ 0 code [] _ c0 z0).mono ?_
  rintro e u' w'' ⟨rfl, rfl, rfl⟩
  have c1 : (w1.setCell ⟨w.heap.size, 0, none⟩ (.int .i64 code)).cell? ⟨w.heap.size, 0, none⟩ = some (.int .i64 code) := World.cell?_setCell_same' _ _ _ (by rw [c0]; rfl)
  simp [Leaves, settle, results, Tryz.results123, go_sem, c1]
  exact ⟨below_set_new (below_alloc w _) hb, .inr ⟨code, rfl, hbad⟩⟩

theorem catch_R_panicking (p : Addr) (x code : Int) (older : List PanicEntry) (w : World) (hc : w.cell? p = some (.int .i64 x)) (hz : w.frozen? p = false) :
  CallsD Tryz.prog 240 #[.pointer (some p)] (.panicking ({ v := .iface 31 (.int .i64 code), recovered := false } :: older)) w fun e u' w' =>
   e = .returned (.tuple #[]) ∧ u' = .panicking ({ v := .iface 31 (.int .i64 code), recovered := true } :: older) ∧ w' = w.setCell p (.int .i64 code) := by
 refine callsD_of_wpS Tryz.func240 rfl fun c₀ cs hu => ?_
 apply wpS_seq
 apply wpS_region
 simp [wpOpsS, go_sem, recoverD, hu, Tryz.ntmps240, Exit.thenS]
 apply wpS_seq
 apply wpS_region
 simp [wpOpsS, go_sem, Exit.thenS]
 refine wpS_cond (t := true) (by simp [Act.eval, Array.replicate]) ?_
 simp only [if_true]
 apply wpS_region
 simp [wpOpsS, go_sem, assert_errno, hc, hz, bodyPostS, results, Tryz.results240]
theorem catch_R_idle (p : Addr) (w : World) :
  CallsD Tryz.prog 240 #[.pointer (some p)] .returning w fun e u' w' => e = .returned (.tuple #[]) ∧ u' = .returning ∧ w' = w := by
 refine callsD_of_wpS Tryz.func240 rfl fun c₀ cs hu => ?_
 apply wpS_seq
 apply wpS_region
 simp [wpOpsS, go_sem, recoverD, hu, Tryz.ntmps240, Exit.thenS]
 apply wpS_seq
 apply wpS_region
 simp [wpOpsS, go_sem, Exit.thenS]
 refine wpS_cond (t := false) (by simp [Act.eval, Array.replicate]) ?_
 simp only [Bool.false_eq_true, if_false]
 refine wpS_of_wp (wp_skip ?_)
 cases c₀
 simp_all [bodyPostS, results, Tryz.results240]
set_option maxHeartbeats 1000000 in
theorem told_R (K : Nat) (caps : Array Value) (eK : ∀ args w, (callFunc K args).run Tryz.prog w = .ok (.enter K args) w) (w : World) (G : Value → World → Prop) (B : Int → Prop)
  (hG : ∀ v w', Below (w.alloc (.cells #[.int .i64 0] 31)).heap.size (w.alloc (.cells #[.int .i64 0] 31)) w' → G v w' → G v (w'.setCell ⟨w.heap.size, 0, none⟩ (.int .i64 0)))
  (h : Calls Tryz.prog K caps (w.alloc (.cells #[.int .i64 0] 31)) (Throws (w.alloc (.cells #[.int .i64 0] 31)) G B)) :
  Calls Tryz.prog 225 #[.func (.func K) #[] caps] w (Told w (.slice none 0 0) G B) := by
 have hmf : ∀ (fn : Fn) (first cap : Array Value) (w : World), (Instr.makeFunc fn first cap).run Tryz.prog w = .ok (.func fn first cap) w := fun _ _ _ _ => rfl
 go_enter_defers Tryz.func225, Tryz.ntmps225
 go_wp2_with fail
 refine h.mono ?_
 rintro en w1 ⟨hb, (⟨v, rfl, hg⟩ | ⟨code, rfl, hbad⟩)⟩
 ·have c0 := (hb.cell (p := ⟨w.heap.size, 0, none⟩) (by simp)).trans (show _ = some (Value.int .i64 0) by simp [go_sem])
  have z0 := (hb.frozen (p := ⟨w.heap.size, 0, none⟩) (by simp)).trans (show _ = false by simp [go_sem])
  go_wp2_with fail
  refine leaves_cons (f := 240) (args := #[.pointer (some ⟨w.heap.size, 0, none⟩)]) (by simp) (by simp [go_sem]) ?_
  refine (catch_R_idle ⟨w.heap.size, 0, none⟩ _).mono ?_
  rintro e u' w'' ⟨rfl, rfl, rfl⟩
  have c1 : (w1.setCell ⟨w.heap.size, 0, none⟩ (.int .i64 0)).cell? ⟨w.heap.size, 0, none⟩ = some (.int .i64 0) := World.cell?_setCell_same' _ _ _ (by rw [c0]; rfl)
  simp [Leaves, settle, results, Tryz.results225, go_sem, c1]
  exact ⟨below_set_new (below_alloc w _) hb, .inl ⟨v, rfl, hG v w1 hb hg⟩⟩
 ·have c0 := (hb.cell (p := ⟨w.heap.size, 0, none⟩) (by simp)).trans (show _ = some (Value.int .i64 0) by simp [go_sem])
  have z0 := (hb.frozen (p := ⟨w.heap.size, 0, none⟩) (by simp)).trans (show _ = false by simp [go_sem])
  go_wp2_with fail
  refine leaves_cons (f := 240) (args := #[.pointer (some ⟨w.heap.size, 0, none⟩)]) (by simp) (by simp [go_sem]) ?_
  refine (catch_R_panicking ⟨w.heap.size, 0, none⟩ 0 code [] _ c0 z0).mono ?_
  rintro e u' w'' ⟨rfl, rfl, rfl⟩
  have c1 : (w1.setCell ⟨w.heap.size, 0, none⟩ (.int .i64 code)).cell? ⟨w.heap.size, 0, none⟩ = some (.int .i64 code) := World.cell?_setCell_same' _ _ _ (by rw [c0]; rfl)
  simp [Leaves, settle, results, Tryz.results225, go_sem, c1]
  exact ⟨below_set_new (below_alloc w _) hb, .inr ⟨code, rfl, hbad⟩⟩
end Go.Proofs.YtcfidimnbamnkaaGreat.P7

/-
 Layer 7: runs: all times of runs, in a row of their own. Conditions: those written at each fact.
-/
namespace Go.Proofs.YtcfidimnbamnkaaGreat.P7
open Go.RowKit Go.Shelf
attribute [local go_sem] Oper.semAt_some

theorem below_grown {W0 W W' : World} {row : Option Nat} {C : Nat} (hC : W0.heap.size ≤ C) (h : Below W0.heap.size W0 W) (hgr : W.grownBy W' row) (hr : ∀ r, row = some r → C ≤ r) : Below W0.heap.size W0 W' :=
 h.grown hgr h.size (fun r e => by have := hr r e; omega)
def RowI (B : Nat) (l : List Int) (v : Value) (W : World) : Prop := W.ownsRow B 2 1 v l.length (l.map (Value.int .i64))

end Go.Proofs.YtcfidimnbamnkaaGreat.P7

/-
 Layer 7: runs: Check, Count, Times and Of, with the error by which each is left. Conditions: those written at each fact.
-/
namespace Go.Proofs.YtcfidimnbamnkaaGreat.P7
open Go.RowKit Go.Shelf

theorem makes_func (fn : Fn) (first cap : Array Value) (w : World) : (Instr.makeFunc fn first cap).run Tryz.prog w = .ok (.func fn first cap) w := rfl
theorem owns_low {W : World} {B g i : Nat} {e : TypeId} {size n : Nat} {v : Value} {xs : List Value} (h : W.ownsRow B e size v n xs) (hg : g < B) (u : Value) : (W.setCell ⟨g, i, none⟩ u).ownsRow B e size v n xs := by
 refine ⟨h.1, ?_⟩
 rcases h.2 with h2 | ⟨g', cap, cur, e1, e2, e3, e4⟩
 ·exact .inl h2
 ·exact .inr ⟨g', cap, cur, e1, e2, (Below.heap_setCell W ⟨g, i, none⟩ u g' (fun e => by have : g' = g := e; omega)).trans e3, e4⟩
def GotR (w : World) (l : List Rn) (e : Ending) (w' : World) : Prop := ∃ v, e = .returned (.tuple #[v, .int .i64 0]) ∧ Below w.heap.size w w' ∧ w'.ownsRow w.heap.size 44 3 v l.length (flatR l)
def ErrR (w : World) (code : Int) (e : Ending) (w' : World) : Prop := e = .returned (.tuple #[.slice none 0 0, .int .i64 code]) ∧ Below w.heap.size w w'
def Res (w : World) (c : Int) (l : List Rn) (e : Ending) (w' : World) : Prop := if c = 0 then GotR w l e w' else ErrR w c e w'
abbrev eCell (w : World) : World := w.alloc (.cells #[.int .i64 0] 31)
theorem eCell_low {w : World} : w.heap.size < (eCell w).heap.size := by simp
theorem eCell_below (w : World) : Below w.heap.size w (eCell w) := below_alloc w _

set_option maxHeartbeats 1000000 in
theorem check1_any (l : List Rn) (hl : l.length ≤ 1000000) (v : Value) (W : World) (B : Nat) (hb : Boxed W B 22 v) (h : ReadsR W v l) :
  Calls Tryz.prog 161 #[.pointer (some ⟨B, 0, none⟩)] W (Throws W (fun x _ => okB l = true ∧ x = .int .i64 (totalR l)) (fun code => okB l = false ∧ code = 170)) := by
 have CA := Lib.hid (count_any l (by omega) v W h)
 obtain ⟨A, c, rfl, _, _⟩ := h
 have hc := hb.cell
 clear hb
 cases gk : okB l
 ·have HK := Lib.hid gk
  clear gk
  go_enter Tryz.func161, Tryz.ntmps161
  go_wp2_with (go_at_call 117; refine CA.out.mono ?_; rintro e w1 ⟨he, hb⟩; rw [HK.out] at he; replace he : e = thrown 170 := he; subst he)
  exact ⟨rfl, hb, .inr ⟨170, rfl, by simp⟩⟩
 ·have HK := Lib.hid gk
  clear gk
  go_enter Tryz.func161, Tryz.ntmps161
  go_wp2_with (go_at_call 117; refine CA.out.mono ?_; rintro e w1 ⟨he, hb⟩; rw [HK.out] at he; replace he : e = .returned (.int .i64 (totalR l)) := he; subst he)
  go_ret
  exact ⟨hb, .inl ⟨_, rfl, by simp⟩⟩
set_option maxHeartbeats 1000000 in
theorem checkA_any (l : List Rn) (hl : l.length ≤ 1000000) (v : Value) (w : World) (h : ReadsR w v l) : Calls Tryz.prog 114 #[v] w (Ret w (.int .i64 (if okB l then 0 else 170))) := by
 have hr := h
 obtain ⟨R, hR⟩ : ∃ R : Int, R = (if okB l then 0 else 170) := ⟨_, rfl⟩
 rw [← hR]
 replace hR := Lib.hid hR
 obtain ⟨A, c, rfl, _, _⟩ := h
 have hmf := makes_func
 have hW : Below w.heap.size w (w.alloc (.cells #[.slice A l.length c] 22)) := below_alloc w _
 have C1 := check1_any l hl (.slice A l.length c) (eCell (w.alloc (.cells #[.slice A l.length c] 22))) w.heap.size ((Boxed.new w _ _).alloc _) ((hr.below hW).below (eCell_below _))
 have TD := Lib.hid (told_I 161 #[.pointer (some ⟨w.heap.size, 0, none⟩)] (enters_of Tryz.func161 (by kernel_rfl) rfl) _ _ _ (fun _ _ _ hg => hg) C1)
 clear C1 hr hW
 go_enter Tryz.func114, Tryz.ntmps114
 go_wp2_with (go_at_call 115; refine TD.out.mono ?_; rintro e w1 ⟨hb, (⟨x, rfl, hok, rfl⟩ | ⟨code, rfl, hok, rfl⟩)⟩)
 ·go_wp2_with fail
  go_ret
  exact ⟨by rw [hR.out, hok]; rfl, past1 hb⟩
 ·go_wp2_with fail
  go_ret
  exact ⟨by rw [hR.out, hok]; rfl, past1 hb⟩

set_option maxHeartbeats 1000000 in
theorem cnt1_any (l : List Rn) (hl : l.length ≤ 1000000) (v : Value) (W : World) (B : Nat) (hb : Boxed W B 22 v) (h : ReadsR W v l) :
  Calls Tryz.prog 116 #[.pointer (some ⟨B, 0, none⟩)] W (Throws W (fun x _ => okB l = true ∧ x = .int .i64 (totalR l)) (fun code => okB l = false ∧ code = 170)) := by
 have CA := Lib.hid (count_any l (by omega) v W h)
 obtain ⟨A, c, rfl, _, _⟩ := h
 have hc := hb.cell
 clear hb
 cases gk : okB l
 ·have HK := Lib.hid gk
  clear gk
  go_enter Tryz.func116, Tryz.ntmps116
  go_wp2_with (go_at_call 117; refine CA.out.mono ?_; rintro e w1 ⟨he, hb⟩; rw [HK.out] at he; replace he : e = thrown 170 := he; subst he)
  exact ⟨rfl, hb, .inr ⟨170, rfl, by simp⟩⟩
 ·have HK := Lib.hid gk
  clear gk
  go_enter Tryz.func116, Tryz.ntmps116
  go_wp2_with (go_at_call 117; refine CA.out.mono ?_; rintro e w1 ⟨he, hb⟩; rw [HK.out] at he; replace he : e = .returned (.int .i64 (totalR l)) := he; subst he)
  go_ret
  exact ⟨hb, .inl ⟨_, rfl, by simp⟩⟩
set_option maxHeartbeats 1000000 in
theorem cntA_any (l : List Rn) (hl : l.length ≤ 1000000) (v : Value) (w : World) (h : ReadsR w v l) : Calls Tryz.prog 60 #[v] w (Ret w (.int .i64 (if okB l then totalR l else 0))) := by
 have hr := h
 obtain ⟨R, hR⟩ : ∃ R : Int, R = (if okB l then totalR l else 0) := ⟨_, rfl⟩
 rw [← hR]
 replace hR := Lib.hid hR
 obtain ⟨A, c, rfl, _, _⟩ := h
 have hmf := makes_func
 have hW : Below w.heap.size w (w.alloc (.cells #[.slice A l.length c] 22)) := below_alloc w _
 have C1 := cnt1_any l hl (.slice A l.length c) (eCell (w.alloc (.cells #[.slice A l.length c] 22))) w.heap.size ((Boxed.new w _ _).alloc _) ((hr.below hW).below (eCell_below _))
 have TD := Lib.hid (told_I 116 #[.pointer (some ⟨w.heap.size, 0, none⟩)] (enters_of Tryz.func116 (by kernel_rfl) rfl) _ _ _ (fun _ _ _ hg => hg) C1)
 clear C1 hr hW
 go_enter Tryz.func60, Tryz.ntmps60
 go_wp2_with (go_at_call 115; refine TD.out.mono ?_; rintro e w1 ⟨hb, (⟨x, rfl, hok, rfl⟩ | ⟨code, rfl, hok, rfl⟩)⟩)
 ·go_wp2_with fail
  go_ret
  exact ⟨by rw [hR.out, hok]; rfl, past1 hb⟩
 ·go_wp2_with fail
  go_ret
  exact ⟨by rw [hR.out, hok]; rfl, past1 hb⟩

end Go.Proofs.YtcfidimnbamnkaaGreat.P7
