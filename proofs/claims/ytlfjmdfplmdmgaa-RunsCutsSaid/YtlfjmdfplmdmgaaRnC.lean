/-
  Layer 7: runs: how many times runs have, if they may be. Conditions: those written at each fact.
-/
import Derived.Test.YtlfjmdfplmdmgaaRnB
namespace Go.Proofs.Ytlfjmdfplmdmgaa
open Go.RowKit

/-- The slice v reads as these runs. -/
def ReadsR (w : World) (v : Value) (l : List Rn) : Prop :=
  ∃ A c, v = .slice A l.length c ∧ l.length ≤ c ∧ ∀ i r, l[i]? = some r → ∃ b off, A = some ⟨b, off, none⟩ ∧ b < w.heap.size ∧ w.cell? ⟨b, off + i * 3, none⟩ = some (.int .i64 r.f) ∧ w.cell? ⟨b, off + i * 3 + 1, none⟩ = some (.int .i64 r.s) ∧ w.cell? ⟨b, off + i * 3 + 2, none⟩ = some (.int .i64 r.c)
theorem ReadsR.below {w w' : World} {v : Value} {l : List Rn} (h : ReadsR w v l) (hb : Below w.heap.size w w') : ReadsR w' v l := by
  obtain ⟨A, c, e, hc, hk⟩ := h
  refine ⟨A, c, e, hc, fun i s hi => ?_⟩
  obtain ⟨b, off, e1, e2, e3, e4, e5⟩ := hk i s hi
  exact ⟨b, off, e1, Nat.lt_of_lt_of_le e2 hb.size, (hb.cell (by exact e2)).trans e3, (hb.cell (by exact e2)).trans e4, (hb.cell (by exact e2)).trans e5⟩
/-- How many times they have. -/
def totalR : List Rn → Int
  | [] => 0
  | r :: l => r.c + totalR l
/-- May the rest of runs be, behind p, and when n times are ahead? -/
def restB : Option Rn → Int → List Rn → Bool
  | _, _, [] => true
  | p, n, r :: l => runB r (256 - n) && ((match p with | none => true | some a => behindB a r) && restB (some r) (n + r.c) l)
/-- May runs be? -/
def okB (l : List Rn) : Bool := decide (l ≠ []) && restB none 0 l
theorem totalR_take {l : List Rn} {k : Nat} {r : Rn} (h : l[k]? = some r) : totalR (l.take (k + 1)) = totalR (l.take k) + r.c := by
  induction l generalizing k with
  | nil => simp at h
  | cons a l ih =>
    cases k with
    | zero => simp at h; subst h; simp [totalR]
    | succ k => simp at h; have := ih h; simp only [List.take_succ_cons, totalR] at *; omega
/-- The run ahead of place k. -/
def aheadR (l : List Rn) : Nat → Option Rn
  | 0 => none
  | k + 1 => l[k]?
/-- As far as place k runs may be: the rest decides. -/
theorem restB_drop {l : List Rn} {k : Nat} {r : Rn} (h : l[k]? = some r) (p : Option Rn) (n : Int) : restB p n (l.drop k) = (runB r (256 - n) && ((match p with | none => true | some a => behindB a r) && restB (some r) (n + r.c) (l.drop (k + 1)))) := by
  obtain ⟨a1, e1⟩ := List.getElem?_eq_some_iff.1 h
  rw [List.drop_eq_getElem_cons a1, e1]
  rfl
/-- What count comes to. -/
abbrev CountEnd (w : World) (l : List Rn) (e : Ending) (w' : World) : Prop := e = (if okB l then .returned (.int .i64 (totalR l)) else thrown 170) ∧ Below w.heap.size w w'
theorem countEnd_bad {w w' : World} {l : List Rn} {e : Ending} (h : okB l = false) (he : e = thrown 170) (hb : Below w.heap.size w w') : CountEnd w l e w' := ⟨by rw [h, he]; rfl, hb⟩

set_option maxRecDepth 100000 in
set_option maxHeartbeats 2000000 in
theorem count_any (l : List Rn) (hl : l.length ≤ 9223372036854775807) (v : Value) (w : World) (h : ReadsR w v l) : Calls Try.prog 38 #[v] w (CountEnd w l) := by
  obtain ⟨A, c, rfl, hc, hk⟩ := h
  have HK := Lib.hid hk
  clear hk
  by_cases g0 : l = []
  · subst g0
    have hO : okB [] = false := by simp [okB]
    have MF := fun W => must_false 170 W
    go_enter Try.func38, Try.ntmps38
    go_wp2_with (go_at_call 45; refine (MF _).mono ?_; rintro e w1 ⟨rfl, hb⟩)
    exact ⟨rfl, countEnd_bad hO rfl hb⟩
  have hl0 : 0 < l.length := List.length_pos_iff.2 g0
  have MT := fun W => must_true 170 W
  have OE : okB l = restB none 0 l := by simp [okB, g0]
  have i0 : (0 : Int) < (l.length : Int) := by omega
  go_enter Try.func38, Try.ntmps38
  go_wp2_with (go_at_call 45; refine (MT _).mono ?_; rintro e w1 ⟨rfl, hb⟩)
  go_loopw [12, 3] (fun i n wr => ∃ (k : Nat) (m : Int), i = .int .i64 k ∧ n = .int .i64 m ∧ k ≤ l.length ∧ 0 ≤ m ∧ m ≤ 256 ∧ Hid (m = totalR (l.take k)) ∧ Hid (okB l = restB (aheadR l k) m (l.drop k)) ∧ Hid (∀ a, aheadR l k = some a → RunOk a) ∧ Below w.heap.size w wr) (fun i _ _ => l.length - (intOf i).toNat)
  case atStart => exact ⟨0, 0, rfl, rfl, by omega, by omega, by omega, Lib.hid (by simp [totalR]), Lib.hid (by simpa [aheadR] using OE), Lib.hid (by simp [aheadR]), hb⟩
  case round =>
    obtain ⟨k, m, rfl, rfl, hkl, hm0, hm1, hT, hO, hA, hB⟩ := hrel
    have hHeld : Keeps w [] wr := ⟨hB, trivial⟩
    by_cases gk : k < l.length
    · obtain ⟨⟨f, s, d⟩, hx⟩ : ∃ s, l[k]? = some s := ⟨_, List.getElem?_eq_getElem gk⟩
      obtain ⟨bb, off, rfl, hbw, hc1, hc2, hc3⟩ := HK.out k _ hx
      have c1 := (hB.cell (p := ⟨bb, off + k * 3, none⟩) hbw).trans hc1
      have c2 := (hB.cell (p := ⟨bb, off + k * 3 + 1, none⟩) hbw).trans hc2
      have c3 := (hB.cell (p := ⟨bb, off + k * 3 + 2, none⟩) hbw).trans hc3
      have i1 : (k : Int) < (l.length : Int) := by omega
      have i0 : (0 : Int) ≤ (k : Int) := by omega
      have e256 : wrap64 (256 - m) = 256 - m := i64_keeps (by omega) (by omega)
      have HX := Lib.hid hx
      have RD := Lib.hid (restB_drop hx (aheadR l k) m)
      have IR := Lib.hid (fun W => isRun_any f s d (256 - m) (by omega) W)
      simp only at c1 c2 c3
      clear hc1 hc2 hc3 hx hB OE
      cases gr : runB ⟨f, s, d⟩ (256 - m)
      · have hO2 : okB l = false := by rw [hO.out, RD.out, gr]; rfl
        rw [gr] at IR
        have MF := Lib.hid (fun W => must_false 170 W)
        clear hO gr
        go_wp2_with fail
        refine (IR.out _).mono ?_
        rintro en w1 ⟨rfl, hb1⟩
        replace hHeld := Keeps.next (hHeld.alloc (.cells #[.int .i64 f, .int .i64 s, .int .i64 d] 36)) hb1
        clear hb1 c1 c2 c3
        go_wp2_with fail
        refine (MF.out _).mono ?_
        rintro en w2 ⟨rfl, hb2⟩
        go_wp2_with fail
        exact ⟨rfl, countEnd_bad hO2 rfl (hHeld.next hb2).1⟩
      · rw [gr] at IR
        have hR := runB_ok (by omega) gr
        have hd1 : 1 ≤ d := hR.1
        have hd2 : d ≤ 256 - m := by unfold runB at gr; simp only [Bool.and_eq_true, decide_eq_true_eq] at gr; exact gr.2.1
        have em : wrap64 (m + d) = m + d := i64_keeps (by omega) (by omega)
        have AN : Hid (∀ a, aheadR l (k + 1) = some a → RunOk a) := Lib.hid (fun a ha => by
          have e : l[k]? = some a := ha
          rw [HX.out] at e
          cases e
          exact hR)
        have RD2 := RD.out
        rw [gr, Bool.true_and] at RD2
        replace RD := Lib.hid RD2
        clear RD2 gr hR
        replace MT := Lib.hid MT
        by_cases g1 : k = 0
        · have ON : Hid (okB l = restB (aheadR l (k + 1)) (m + d) (l.drop (k + 1))) := Lib.hid (by
            rw [hO.out, RD.out, g1]
            have e : aheadR l (0 + 1) = some ⟨f, s, d⟩ := by have := HX.out; rw [g1] at this; exact this
            rw [e]; rfl)
          subst g1
          simp only [Nat.zero_mul, Nat.add_zero] at c1 c2 c3
          have MM := MT
          have IB := Lib.hid True.intro
          go_wp2_with fail
          refine (IR.out _).mono ?_
          rintro en w1 ⟨rfl, hb1⟩
          replace hHeld := Keeps.next ((hHeld.alloc (.cells #[.int .i64 f, .int .i64 s, .int .i64 d] 36)).app (newK3 (hHeld.alloc (.cells #[.int .i64 f, .int .i64 s, .int .i64 d] 36)))) hb1
          clear hb1 c1 c2 c3
          go_wp2_with fail
          refine (MT.out _).mono ?_
          rintro en w2 ⟨rfl, hb2⟩
          replace hHeld := hHeld.next hb2
          clear hb2
          go_wp2_with fail
          refine region_keeps (w0 := w) (L := [(wr.heap.size, 0, .int .i64 f), (wr.heap.size, 1, .int .i64 s), (wr.heap.size, 2, .int .i64 d)]) (by kernel_rfl) hHeld (fun hHeld0 => ?_)
          refine wpAnyH_take (i := 0) (oi := ⟨some 22, _, _, _, _, _⟩) (v := ?_) rfl (by kernel_rfl) (by kernel_rfl) (by kernel_rfl) (fun _ _ _ h => h) (Or.inl ⟨by rfl, ?_⟩) (by assumption) ?_
          rotate_left
          · intro wq hSw; go_simp; (try with_reducible rfl)
          try simp only [Act.put, List.setIfInBounds_toArray, List.set_cons_zero, List.set_cons_succ]
          refine wpAnyH_take (i := 1) (oi := ⟨some 23, _, _, _, _, _⟩) (v := ?_) rfl (by kernel_rfl) (by kernel_rfl) (by kernel_rfl) (fun _ _ _ h => h) (Or.inl ⟨by rfl, ?_⟩) (by assumption) ?_
          rotate_left
          · intro wq hSw; go_simp; (try with_reducible rfl)
          try simp only [Act.put, List.setIfInBounds_toArray, List.set_cons_zero, List.set_cons_succ]
          refine wpAnyH_take (i := 2) (oi := ⟨some 24, _, _, _, _, _⟩) (v := ?_) rfl (by kernel_rfl) (by kernel_rfl) (by kernel_rfl) (fun _ _ _ h => h) (Or.inl ⟨by rfl, ?_⟩) (by assumption) ?_
          rotate_left
          · intro wq hSw; go_simp; (try with_reducible rfl)
          try simp only [Act.put, List.setIfInBounds_toArray, List.set_cons_zero, List.set_cons_succ]
          refine wpAnyH_take (i := 3) (oi := ⟨some 25, _, _, _, _, _⟩) (v := undef) rfl (by kernel_rfl) (by kernel_rfl) (by kernel_rfl) (fun _ _ _ h => h) (Or.inr ⟨by rfl, rfl⟩) (by assumption) ?_
          try simp only [Act.put, List.setIfInBounds_toArray, List.set_cons_zero, List.set_cons_succ]
          refine wpAnyH_take (i := 4) (oi := ⟨some 26, _, _, _, _, _⟩) (v := undef) rfl (by kernel_rfl) (by kernel_rfl) (by kernel_rfl) (fun _ _ _ h => h) (Or.inr ⟨by rfl, rfl⟩) (by assumption) ?_
          try simp only [Act.put, List.setIfInBounds_toArray, List.set_cons_zero, List.set_cons_succ]
          refine wpAnyH_take (i := 5) (oi := ⟨some 27, _, _, _, _, _⟩) (v := undef) rfl (by kernel_rfl) (by kernel_rfl) (by kernel_rfl) (fun _ _ _ h => h) (Or.inr ⟨by rfl, rfl⟩) (by assumption) ?_
          try simp only [Act.put, List.setIfInBounds_toArray, List.set_cons_zero, List.set_cons_succ]
          refine wpAnyH_take (i := 6) (oi := ⟨some 28, _, _, _, _, _⟩) (v := undef) rfl (by kernel_rfl) (by kernel_rfl) (by kernel_rfl) (fun _ _ _ h => h) (Or.inr ⟨by rfl, rfl⟩) (by assumption) ?_
          try simp only [Act.put, List.setIfInBounds_toArray, List.set_cons_zero, List.set_cons_succ]
          refine wpAnyH_take (i := 7) (oi := ⟨some 29, _, _, _, _, _⟩) (v := undef) rfl (by kernel_rfl) (by kernel_rfl) (by kernel_rfl) (fun _ _ _ h => h) (Or.inr ⟨by rfl, rfl⟩) (by assumption) ?_
          try simp only [Act.put, List.setIfInBounds_toArray, List.set_cons_zero, List.set_cons_succ]
          refine wpAnyH_take (i := 8) (oi := ⟨some 30, _, _, _, _, _⟩) (v := undef) rfl (by kernel_rfl) (by kernel_rfl) (by kernel_rfl) (fun _ _ _ h => h) (Or.inr ⟨by rfl, rfl⟩) (by assumption) ?_
          try simp only [Act.put, List.setIfInBounds_toArray, List.set_cons_zero, List.set_cons_succ]
          refine wpAnyH_take (i := 9) (oi := ⟨some 31, _, _, _, _, _⟩) (v := undef) rfl (by kernel_rfl) (by kernel_rfl) (by kernel_rfl) (fun _ _ _ h => h) (Or.inr ⟨by rfl, rfl⟩) (by assumption) ?_
          try simp only [Act.put, List.setIfInBounds_toArray, List.set_cons_zero, List.set_cons_succ]
          refine wpAnyH_take (i := 10) (oi := ⟨some 32, _, _, _, _, _⟩) (v := ?_) rfl (by kernel_rfl) (by kernel_rfl) (by kernel_rfl) (fun _ _ _ h => h) (Or.inl ⟨by rfl, ?_⟩) (by assumption) ?_
          rotate_left
          · intro wq hSw; go_simp; (try with_reducible rfl)
          try simp only [Act.put, List.setIfInBounds_toArray, List.set_cons_zero, List.set_cons_succ]
          refine wpAnyH_ready (rs := [11]) (by kernel_rfl) (by simp) ?_
          refine AllReadyH.cons (o := ⟨some 33, _, _, _, _, _⟩) rfl (fun K hK => ?_) AllReadyH.nil
          go_simp
          (first | ((with_reducible refine (IB.out _).mono ?_); rintro e w5 ⟨rfl, hb⟩) | ((with_reducible refine (MM.out _).mono ?_); rintro e w6 ⟨rfl, hb⟩))
          refine hK.out _ _ (hHeld0.next hb) (fun hHeld1 => ?_)
          clear hK K
          try clear hb
          try simp only [Act.put, List.setIfInBounds_toArray, List.set_cons_zero, List.set_cons_succ]
          refine wpAnyH_done (by kernel_rfl) ?_ _
          have hHeld := hHeld1
          obtain ⟨⟨kz0, kc0, kf0⟩, ⟨kz1, kc1, kf1⟩, ⟨kz2, kc2, kf2⟩, _⟩ := hHeld.2
          all_goals
            go_wp2_with fail
            go_roundw
            case rel => exact ⟨1, m + d, by simp, rfl, by omega, by omega, by omega, Lib.hid (by rw [totalR_take HX.out, ← hT.out]), Lib.hid ON.out, Lib.hid AN.out, hHeld.1⟩
            case measure => simp [intOf]; omega
        · obtain ⟨j, hj⟩ : ∃ j, k = j + 1 := ⟨k - 1, by omega⟩
          obtain ⟨⟨f0, s0, d0⟩, hy⟩ : ∃ s, l[j]? = some s := ⟨_, List.getElem?_eq_getElem (by omega)⟩
          obtain ⟨bb', off', hbe, hbw', hp1, hp2, hp3⟩ := HK.out j _ hy
          cases hbe
          have hak : aheadR l k = some ⟨f0, s0, d0⟩ := by rw [hj]; exact hy
          have IB := Lib.hid (fun W => isBehind_any ⟨f0, s0, d0⟩ ⟨f, s, d⟩ (hA.out _ hak) W)
          have ej : wrap64 ((k : Int) - 1) = (j : Int) := by rw [hj]; exact (i64_keeps (by omega) (by omega)).trans (by omega)
          have ek : IntKind.i64.wrap ((k : Int) - 1) = (j : Int) := (by rw [IntKind.wrap_i64]; omega)
          have ij : (j : Int) < (l.length : Int) := by omega
          have j0 : (0 : Int) ≤ (j : Int) := by omega
          have hk0 : ¬ (k : Int) = 0 := by omega
          have HP := Lib.hid (And.intro hp1 (And.intro hp2 hp3))
          simp only at hp1 hp2 hp3
          replace hp1 := Lib.hid hp1; replace hp2 := Lib.hid hp2; replace hp3 := Lib.hid hp3
          clear hy HP
          rw [hak] at RD
          cases gb : behindB ⟨f0, s0, d0⟩ ⟨f, s, d⟩
          · have hO2 : okB l = false := by rw [hO.out, hak, RD.out]; show (behindB _ _ && _) = _; rw [gb]; rfl
            have MM := Lib.hid (fun W => must_false 170 W)
            rw [gb] at IB
            clear hO RD hak gb hj
            go_wp2_with fail
            refine (IR.out _).mono ?_
            rintro en w1 ⟨rfl, hb1⟩
            replace hHeld := Keeps.next ((hHeld.alloc (.cells #[.int .i64 f, .int .i64 s, .int .i64 d] 36)).app (newK3 (hHeld.alloc (.cells #[.int .i64 f, .int .i64 s, .int .i64 d] 36)))) hb1
            clear hb1 c1 c2 c3
            go_wp2_with fail
            refine (MT.out _).mono ?_
            rintro en w2 ⟨rfl, hb2⟩
            replace hHeld := hHeld.next hb2
            clear hb2
            go_wp2_with fail
            have hk1 : ((k : Int) == 0) = false := beq_eq_false_iff_ne.2 (by omega)
            refine region_keeps (w0 := w) (L := [(wr.heap.size, 0, .int .i64 f), (wr.heap.size, 1, .int .i64 s), (wr.heap.size, 2, .int .i64 d)]) (by kernel_rfl) hHeld (fun hHeld0 => ?_)
            refine wpAnyH_take (i := 0) (oi := ⟨some 22, _, _, _, _, _⟩) (v := ?_) rfl (by kernel_rfl) (by kernel_rfl) (by kernel_rfl) (fun _ _ _ h => h) (Or.inl ⟨by rfl, ?_⟩) (by assumption) ?_
            rotate_left
            · intro wq hSw; go_simp; (try with_reducible rfl)
            try simp only [Act.put, List.setIfInBounds_toArray, List.set_cons_zero, List.set_cons_succ]
            refine wpAnyH_take (i := 1) (oi := ⟨some 23, _, _, _, _, _⟩) (v := ?_) rfl (by kernel_rfl) (by kernel_rfl) (by kernel_rfl) (fun _ _ _ h => h) (Or.inl ⟨by rfl, ?_⟩) (by assumption) ?_
            rotate_left
            · intro wq hSw; go_simp; (try with_reducible rfl)
            try simp only [Act.put, List.setIfInBounds_toArray, List.set_cons_zero, List.set_cons_succ]
            refine wpAnyH_take (i := 2) (oi := ⟨some 24, _, _, _, _, _⟩) (v := ?_) rfl (by kernel_rfl) (by kernel_rfl) (by kernel_rfl) (fun _ _ _ h => h) (Or.inl ⟨by rfl, ?_⟩) (by assumption) ?_
            rotate_left
            · intro wq hSw; go_simp; (try with_reducible rfl)
            try simp only [Act.put, List.setIfInBounds_toArray, List.set_cons_zero, List.set_cons_succ]
            refine wpAnyH_take (i := 3) (oi := ⟨some 25, _, _, _, _, _⟩) (v := ?_) rfl (by kernel_rfl) (by kernel_rfl) (by kernel_rfl) (fun _ _ _ h => h) (Or.inl ⟨by rfl, ?_⟩) (by assumption) ?_
            rotate_left
            · intro wq hSw; go_simp; (try with_reducible rfl)
            try simp only [Act.put, List.setIfInBounds_toArray, List.set_cons_zero, List.set_cons_succ]
            refine wpAnyH_take (i := 4) (oi := ⟨some 26, _, _, _, _, _⟩) (v := ?_) rfl (by kernel_rfl) (by kernel_rfl) (by kernel_rfl) (fun _ _ _ h => h) (Or.inl ⟨by rfl, ?_⟩) (by assumption) ?_
            rotate_left
            · intro wq hSw; go_simp; (try with_reducible rfl)
            try simp only [Act.put, List.setIfInBounds_toArray, List.set_cons_zero, List.set_cons_succ]
            refine wpAnyH_take (i := 5) (oi := ⟨some 27, _, _, _, _, _⟩) (v := ?_) rfl (by kernel_rfl) (by kernel_rfl) (by kernel_rfl) (fun _ _ _ h => h) (Or.inl ⟨by rfl, ?_⟩) (by assumption) ?_
            rotate_left
            · intro wq hSw; go_simp; (try with_reducible rfl)
            try simp only [Act.put, List.setIfInBounds_toArray, List.set_cons_zero, List.set_cons_succ]
            refine wpAnyH_take (i := 6) (oi := ⟨some 28, _, _, _, _, _⟩) (v := ?_) rfl (by kernel_rfl) (by kernel_rfl) (by kernel_rfl) (fun _ _ _ h => h) (Or.inl ⟨by rfl, ?_⟩) (by assumption) ?_
            rotate_left
            · intro wq hSw; go_simp; (try with_reducible rfl)
            try simp only [Act.put, List.setIfInBounds_toArray, List.set_cons_zero, List.set_cons_succ]
            refine wpAnyH_take (i := 7) (oi := ⟨some 29, _, _, _, _, _⟩) (v := ?_) rfl (by kernel_rfl) (by kernel_rfl) (by kernel_rfl) (fun _ _ _ h => h) (Or.inl ⟨by rfl, ?_⟩) (by assumption) ?_
            rotate_left
            · intro wq hSw; obtain ⟨⟨qz0, qc0, qf0⟩, ⟨qz1, qc1, qf1⟩, ⟨qz2, qc2, qf2⟩, _⟩ := hSw.2; have hp4 := (hSw.1.cell (p := ⟨bb, off + j * 3, none⟩) hbw).trans hp1.out; have hp5 := (hSw.1.cell (p := ⟨bb, off + j * 3 + 1, none⟩) hbw).trans hp2.out; have hp6 := (hSw.1.cell (p := ⟨bb, off + j * 3 + 2, none⟩) hbw).trans hp3.out; go_simp; (try with_reducible rfl)
            try simp only [Act.put, List.setIfInBounds_toArray, List.set_cons_zero, List.set_cons_succ]
            refine wpAnyH_take (i := 8) (oi := ⟨some 30, _, _, _, _, _⟩) (v := ?_) rfl (by kernel_rfl) (by kernel_rfl) (by kernel_rfl) (fun _ _ _ h => h) (Or.inl ⟨by rfl, ?_⟩) (by assumption) ?_
            rotate_left
            · intro wq hSw; obtain ⟨⟨qz0, qc0, qf0⟩, ⟨qz1, qc1, qf1⟩, ⟨qz2, qc2, qf2⟩, _⟩ := hSw.2; have hp4 := (hSw.1.cell (p := ⟨bb, off + j * 3, none⟩) hbw).trans hp1.out; have hp5 := (hSw.1.cell (p := ⟨bb, off + j * 3 + 1, none⟩) hbw).trans hp2.out; have hp6 := (hSw.1.cell (p := ⟨bb, off + j * 3 + 2, none⟩) hbw).trans hp3.out; go_simp; (try with_reducible rfl)
            try simp only [Act.put, List.setIfInBounds_toArray, List.set_cons_zero, List.set_cons_succ]
            refine wpAnyH_ready (rs := [9]) (by kernel_rfl) (by simp) ?_
            refine AllReadyH.cons (o := ⟨some 31, _, _, _, _, _⟩) rfl (fun K hK => ?_) AllReadyH.nil
            go_simp
            (first | ((with_reducible refine (IB.out _).mono ?_); rintro e w5 ⟨rfl, hb⟩) | ((with_reducible refine (MM.out _).mono ?_); rintro e w6 ⟨rfl, hb⟩))
            refine hK.out _ _ (hHeld0.next hb) (fun hHeld1 => ?_)
            clear hK K
            try clear hb
            try simp only [Act.put, List.setIfInBounds_toArray, List.set_cons_zero, List.set_cons_succ]
            refine wpAnyH_take (i := 10) (oi := ⟨some 32, _, _, _, _, _⟩) (v := ?_) rfl (by kernel_rfl) (by kernel_rfl) (by kernel_rfl) (fun _ _ _ h => h) (Or.inl ⟨by rfl, ?_⟩) (by assumption) ?_
            rotate_left
            · intro wq hSw; go_simp; (try with_reducible rfl)
            try simp only [Act.put, List.setIfInBounds_toArray, List.set_cons_zero, List.set_cons_succ]
            refine wpAnyH_ready (rs := [11]) (by kernel_rfl) (by simp) ?_
            refine AllReadyH.cons (o := ⟨some 33, _, _, _, _, _⟩) rfl (fun K hK => ?_) AllReadyH.nil
            go_simp
            (first | ((with_reducible refine (IB.out _).mono ?_); rintro e w5 ⟨rfl, hb⟩) | ((with_reducible refine (MM.out _).mono ?_); rintro e w6 ⟨rfl, hb⟩))
            have hHeld := hHeld1
            all_goals
              exact ⟨rfl, countEnd_bad hO2 rfl (hHeld.next hb).1⟩
          · have ON : Hid (okB l = restB (aheadR l (k + 1)) (m + d) (l.drop (k + 1))) := Lib.hid (by
              rw [hO.out, hak, RD.out]; show (behindB _ _ && _) = _; rw [gb, Bool.true_and]
              have e : aheadR l (k + 1) = some ⟨f, s, d⟩ := HX.out
              rw [e])
            have MM := MT
            rw [gb] at IB
            clear hO RD hak gb hj
            go_wp2_with fail
            refine (IR.out _).mono ?_
            rintro en w1 ⟨rfl, hb1⟩
            replace hHeld := Keeps.next ((hHeld.alloc (.cells #[.int .i64 f, .int .i64 s, .int .i64 d] 36)).app (newK3 (hHeld.alloc (.cells #[.int .i64 f, .int .i64 s, .int .i64 d] 36)))) hb1
            clear hb1 c1 c2 c3
            go_wp2_with fail
            refine (MT.out _).mono ?_
            rintro en w2 ⟨rfl, hb2⟩
            replace hHeld := hHeld.next hb2
            clear hb2
            go_wp2_with fail
            have hk1 : ((k : Int) == 0) = false := beq_eq_false_iff_ne.2 (by omega)
            refine region_keeps (w0 := w) (L := [(wr.heap.size, 0, .int .i64 f), (wr.heap.size, 1, .int .i64 s), (wr.heap.size, 2, .int .i64 d)]) (by kernel_rfl) hHeld (fun hHeld0 => ?_)
            refine wpAnyH_take (i := 0) (oi := ⟨some 22, _, _, _, _, _⟩) (v := ?_) rfl (by kernel_rfl) (by kernel_rfl) (by kernel_rfl) (fun _ _ _ h => h) (Or.inl ⟨by rfl, ?_⟩) (by assumption) ?_
            rotate_left
            · intro wq hSw; go_simp; (try with_reducible rfl)
            try simp only [Act.put, List.setIfInBounds_toArray, List.set_cons_zero, List.set_cons_succ]
            refine wpAnyH_take (i := 1) (oi := ⟨some 23, _, _, _, _, _⟩) (v := ?_) rfl (by kernel_rfl) (by kernel_rfl) (by kernel_rfl) (fun _ _ _ h => h) (Or.inl ⟨by rfl, ?_⟩) (by assumption) ?_
            rotate_left
            · intro wq hSw; go_simp; (try with_reducible rfl)
            try simp only [Act.put, List.setIfInBounds_toArray, List.set_cons_zero, List.set_cons_succ]
            refine wpAnyH_take (i := 2) (oi := ⟨some 24, _, _, _, _, _⟩) (v := ?_) rfl (by kernel_rfl) (by kernel_rfl) (by kernel_rfl) (fun _ _ _ h => h) (Or.inl ⟨by rfl, ?_⟩) (by assumption) ?_
            rotate_left
            · intro wq hSw; go_simp; (try with_reducible rfl)
            try simp only [Act.put, List.setIfInBounds_toArray, List.set_cons_zero, List.set_cons_succ]
            refine wpAnyH_take (i := 3) (oi := ⟨some 25, _, _, _, _, _⟩) (v := ?_) rfl (by kernel_rfl) (by kernel_rfl) (by kernel_rfl) (fun _ _ _ h => h) (Or.inl ⟨by rfl, ?_⟩) (by assumption) ?_
            rotate_left
            · intro wq hSw; go_simp; (try with_reducible rfl)
            try simp only [Act.put, List.setIfInBounds_toArray, List.set_cons_zero, List.set_cons_succ]
            refine wpAnyH_take (i := 4) (oi := ⟨some 26, _, _, _, _, _⟩) (v := ?_) rfl (by kernel_rfl) (by kernel_rfl) (by kernel_rfl) (fun _ _ _ h => h) (Or.inl ⟨by rfl, ?_⟩) (by assumption) ?_
            rotate_left
            · intro wq hSw; go_simp; (try with_reducible rfl)
            try simp only [Act.put, List.setIfInBounds_toArray, List.set_cons_zero, List.set_cons_succ]
            refine wpAnyH_take (i := 5) (oi := ⟨some 27, _, _, _, _, _⟩) (v := ?_) rfl (by kernel_rfl) (by kernel_rfl) (by kernel_rfl) (fun _ _ _ h => h) (Or.inl ⟨by rfl, ?_⟩) (by assumption) ?_
            rotate_left
            · intro wq hSw; go_simp; (try with_reducible rfl)
            try simp only [Act.put, List.setIfInBounds_toArray, List.set_cons_zero, List.set_cons_succ]
            refine wpAnyH_take (i := 6) (oi := ⟨some 28, _, _, _, _, _⟩) (v := ?_) rfl (by kernel_rfl) (by kernel_rfl) (by kernel_rfl) (fun _ _ _ h => h) (Or.inl ⟨by rfl, ?_⟩) (by assumption) ?_
            rotate_left
            · intro wq hSw; go_simp; (try with_reducible rfl)
            try simp only [Act.put, List.setIfInBounds_toArray, List.set_cons_zero, List.set_cons_succ]
            refine wpAnyH_take (i := 7) (oi := ⟨some 29, _, _, _, _, _⟩) (v := ?_) rfl (by kernel_rfl) (by kernel_rfl) (by kernel_rfl) (fun _ _ _ h => h) (Or.inl ⟨by rfl, ?_⟩) (by assumption) ?_
            rotate_left
            · intro wq hSw; obtain ⟨⟨qz0, qc0, qf0⟩, ⟨qz1, qc1, qf1⟩, ⟨qz2, qc2, qf2⟩, _⟩ := hSw.2; have hp4 := (hSw.1.cell (p := ⟨bb, off + j * 3, none⟩) hbw).trans hp1.out; have hp5 := (hSw.1.cell (p := ⟨bb, off + j * 3 + 1, none⟩) hbw).trans hp2.out; have hp6 := (hSw.1.cell (p := ⟨bb, off + j * 3 + 2, none⟩) hbw).trans hp3.out; go_simp; (try with_reducible rfl)
            try simp only [Act.put, List.setIfInBounds_toArray, List.set_cons_zero, List.set_cons_succ]
            refine wpAnyH_take (i := 8) (oi := ⟨some 30, _, _, _, _, _⟩) (v := ?_) rfl (by kernel_rfl) (by kernel_rfl) (by kernel_rfl) (fun _ _ _ h => h) (Or.inl ⟨by rfl, ?_⟩) (by assumption) ?_
            rotate_left
            · intro wq hSw; obtain ⟨⟨qz0, qc0, qf0⟩, ⟨qz1, qc1, qf1⟩, ⟨qz2, qc2, qf2⟩, _⟩ := hSw.2; have hp4 := (hSw.1.cell (p := ⟨bb, off + j * 3, none⟩) hbw).trans hp1.out; have hp5 := (hSw.1.cell (p := ⟨bb, off + j * 3 + 1, none⟩) hbw).trans hp2.out; have hp6 := (hSw.1.cell (p := ⟨bb, off + j * 3 + 2, none⟩) hbw).trans hp3.out; go_simp; (try with_reducible rfl)
            try simp only [Act.put, List.setIfInBounds_toArray, List.set_cons_zero, List.set_cons_succ]
            refine wpAnyH_ready (rs := [9]) (by kernel_rfl) (by simp) ?_
            refine AllReadyH.cons (o := ⟨some 31, _, _, _, _, _⟩) rfl (fun K hK => ?_) AllReadyH.nil
            go_simp
            (first | ((with_reducible refine (IB.out _).mono ?_); rintro e w5 ⟨rfl, hb⟩) | ((with_reducible refine (MM.out _).mono ?_); rintro e w6 ⟨rfl, hb⟩))
            refine hK.out _ _ (hHeld0.next hb) (fun hHeld1 => ?_)
            clear hK K
            try clear hb
            try simp only [Act.put, List.setIfInBounds_toArray, List.set_cons_zero, List.set_cons_succ]
            refine wpAnyH_take (i := 10) (oi := ⟨some 32, _, _, _, _, _⟩) (v := ?_) rfl (by kernel_rfl) (by kernel_rfl) (by kernel_rfl) (fun _ _ _ h => h) (Or.inl ⟨by rfl, ?_⟩) (by assumption) ?_
            rotate_left
            · intro wq hSw; go_simp; (try with_reducible rfl)
            try simp only [Act.put, List.setIfInBounds_toArray, List.set_cons_zero, List.set_cons_succ]
            refine wpAnyH_ready (rs := [11]) (by kernel_rfl) (by simp) ?_
            refine AllReadyH.cons (o := ⟨some 33, _, _, _, _, _⟩) rfl (fun K hK => ?_) AllReadyH.nil
            go_simp
            (first | ((with_reducible refine (IB.out _).mono ?_); rintro e w5 ⟨rfl, hb⟩) | ((with_reducible refine (MM.out _).mono ?_); rintro e w6 ⟨rfl, hb⟩))
            refine hK.out _ _ (hHeld1.next hb) (fun hHeld2 => ?_)
            clear hK K
            try clear hb
            try simp only [Act.put, List.setIfInBounds_toArray, List.set_cons_zero, List.set_cons_succ]
            refine wpAnyH_done (by kernel_rfl) ?_ _
            have hHeld := hHeld2
            obtain ⟨⟨kz0, kc0, kf0⟩, ⟨kz1, kc1, kf1⟩, ⟨kz2, kc2, kf2⟩, _⟩ := hHeld.2
            all_goals
              go_wp2_with fail
              go_roundw
              case rel => exact ⟨k + 1, m + d, by simp, rfl, by omega, by omega, by omega, Lib.hid (by rw [totalR_take HX.out, ← hT.out]), Lib.hid ON.out, Lib.hid AN.out, hHeld.1⟩
              case measure => simp [intOf]; omega
    · have hkl2 : k = l.length := by omega
      have hO2 : okB l = true := by rw [hO.out, hkl2, List.drop_length]; rfl
      have hT2 : m = totalR l := by have := hT.out; rwa [hkl2, List.take_length] at this
      have i1 : ¬ (k : Int) < (l.length : Int) := by omega
      clear hT hO hA OE hkl2
      go_wp2_with fail
      go_ret
      exact ⟨by rw [hO2, ← hT2]; rfl, hB⟩
end Go.Proofs.Ytlfjmdfplmdmgaa
