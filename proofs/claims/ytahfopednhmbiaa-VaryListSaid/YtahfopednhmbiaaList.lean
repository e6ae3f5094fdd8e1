/-
  Layer 2: the law VaryList, its walk. Conditions: those written at each fact.
-/
import Derived.Test.YtahfopednhmbiaaListM
import Derived.Test.YtahfopednhmbiaaRows2
import Derived.Test.YtahfopednhmbiaaAlone
import Derived.Laws.OwnMore
namespace Go.Proofs.Ytahfopednhmbiaa
open Go.RowKit Go.Shelf

theorem if_wanted {o : Oper} {ops : Array Oper} {tm : Array Value} {A B : Prop} (hg : o.guard = none) (h : A) : if Region.wanted o (yielded ops tm) = true then A else B := by
  rw [if_pos (by simp [Region.wanted, hg])]; exact h
theorem same_row {D : List Int} {k : Nat} (hD : D.length = k) (hk : k ≤ 610) (g4 c4 g a c : Nat) (W : World) (h1 : Lie W g4 0 D) (i1 : g4 < W.heap.size) (hc4 : k ≤ c4) (h2 : Lie W g a D) (i2 : g < W.heap.size) (hc : k ≤ c) :
    Calls Try.prog 16 #[.slice (some ⟨g4, 0, none⟩) k c4, .slice (some ⟨g, a, none⟩) k c] W (Ret W (.bool true)) := by
  subst hD
  have := equalB D D (by omega) _ _ W (reads_lie h1 i1 hc4) (reads_at h2 i2 hc)
  rwa [eqB_true rfl] at this
theorem wp_append_none {P : Program} {w : World} {o : Oper} {a : Act} {K : Act → World → Prop} {Q : Exit → Act → World → Prop} (s x : Operand) (t : TypeId)
    (ho : o.op = .call { callee := .builtin .append, args := #[s, x], argTypes := #[t, t] })
    (base : Nat) (e : TypeId) (i : TypeInfo) (size : Nat) (ht : P.underlying t = some (.slice e)) (hi : P.info? e = some i)
    (v : Value) (n : Nat) (xs : List Value) (hs : a.eval s = v) (hown : w.ownsRow base e size v n xs) (hx : a.eval x = .slice none 0 0)
    (h : K (a.put o.dst v) w) : o.wp P a w K Q := by
  have hrun := run_append_owned_none (P := P) (w := w) base t o.type e i size ht hi v n xs hown
  unfold Oper.wp
  simp [execOp, ho, resolve, invoke, builtin, hs, hx, hrun, Result.andThen]
  exact h

set_option maxRecDepth 100000 in
set_option maxHeartbeats 16000000 in
theorem list_ss (b : List Int) (hbl : b.length ≤ 9223372036854775807) (hbb : ∀ z ∈ b, 0 ≤ z ∧ z < 256) (x : List Int) (hx : x.length ≤ 60) (hxr : ∀ z ∈ x, -9223372036854775808 ≤ z ∧ z ≤ 9223372036854775807) (t : List Int) (ht : t.length ≤ 30) (htb : ∀ z ∈ t, 0 ≤ z ∧ z < 256) (v v0 vt : Value) (w : World) (h : Reads .u8 w v b) (h0 : Reads .i64 w v0 x) (h2 : Reads .u8 w vt t) (hnil : ∀ n c, vt ≠ .slice none n c) :
    Calls Try.prog 9 #[v, v0, vt] w (Ret w (.bool true)) := by
  obtain ⟨i0, hi, hz0, hz1, hz2⟩ := info_parts infoU8
  have HH := Lib.hid (fun W (hb : Below w.heap.size w W) => head_any b hbl v W (h.below hb))
  have hl4 : (b.take 400).length ≤ 400 := by simp; omega
  have hlb : ∀ z ∈ b.take 400, 0 ≤ z ∧ z < 256 := fun z hz => hbb z (List.mem_of_mem_take hz)
  generalize b.take 400 = l at *
  obtain ⟨A0, c0, rfl, hc0, hk0⟩ := h0
  obtain ⟨At, ct, rfl, hct, hkt⟩ := h2
  obtain ⟨ad, rfl⟩ : ∃ ad, At = some ad := by
    cases At with
    | none => exact absurd rfl (hnil _ _)
    | some ad => exact ⟨ad, rfl⟩
  clear hnil
  have hm1 : (x.take 60).length ≤ 60 := by simp; omega
  have hml : (x.take 60).length = x.length := by simp; omega
  have hmr : ∀ z ∈ x.take 60, -9223372036854775808 ≤ z ∧ z ≤ 9223372036854775807 := fun z hz => hxr z (List.mem_of_mem_take hz)
  have RX : Hid (Reads .i64 w (.slice A0 x.length c0) (x.take 60)) := Lib.hid (by
    have := reads_take (A := A0) (c := c0) ⟨A0, c0, rfl, hc0, hk0⟩ (x.take 60).length (by simp; omega)
    rw [hml] at this
    have e : x.take x.length = x.take 60 := by rw [List.take_of_length_le (Nat.le_refl _), List.take_of_length_le hx]
    rwa [e] at this)
  have ht1 : (t.take 30).length ≤ 30 := by simp; omega
  have htl : (t.take 30).length = t.length := by simp; omega
  have htr : ∀ z ∈ t.take 30, 0 ≤ z ∧ z < 256 := fun z hz => htb z (List.mem_of_mem_take hz)
  have RT : Hid (Reads .u8 w (.slice (some ad) t.length ct) (t.take 30)) := Lib.hid (by
    have := reads_take (A := some ad) (c := ct) ⟨some ad, ct, rfl, hct, hkt⟩ (t.take 30).length (by simp; omega)
    rw [htl] at this
    have e : t.take t.length = t.take 30 := by rw [List.take_of_length_le (Nat.le_refl _), List.take_of_length_le ht]
    rwa [e] at this)
  have CX := Lib.hid (fun W (hb : Below w.heap.size w W) => cloneI (x.take 60) (by omega) _ W (RX.out.below hb))
  have EI := Lib.hid (fun v1 v2 W (h1 : Reads .i64 W v1 (x.take 60)) (h2 : Reads .i64 W v2 (x.take 60)) => equalI (x.take 60) (x.take 60) (by omega) v1 v2 W h1 h2)
  rw [eqB_true rfl] at EI
  have PR0 := Lib.hid (fun v1 v2 W (h1 : Reads .u8 W v1 l) (h2 : Reads .i64 W v2 (x.take 60)) => putRow_any l (by omega) (x.take 60) (by omega) hmr v1 v2 W h1 h2)
  have PN0 := Lib.hid (fun v2 W (h2 : Reads .i64 W v2 (x.take 60)) => putRow_any [] (by simp) (x.take 60) (by omega) hmr _ v2 W (Reads.nil (k := .u8)) h2)
  rw [List.nil_append] at PN0
  have hD := rowBytes_len hm1 hmr
  have hDb := rowBytes_b (by omega) hmr
  have hPb : ∀ z ∈ l ++ rowBytes (x.take 60) ++ t.take 30, 0 ≤ z ∧ z < 256 := fun z hz' => by
    rcases List.mem_append.1 hz' with hz' | hz'
    · rcases List.mem_append.1 hz' with hz' | hz'
      · exact hlb z hz'
      · exact hDb z hz'
    · exact htr z hz'
  have hPl : (l ++ rowBytes (x.take 60) ++ t.take 30).length ≤ 2000 := by rw [List.length_append, List.length_append]; omega
  have G1 := Lib.hid (fun v W (hr : Reads .u8 W v (l ++ rowBytes (x.take 60) ++ t.take 30)) => getRow_any _ (by omega) hPb l.length (x.take 60).length (by omega) v W hr)
  rw [gotRow_put hm1 hmr] at G1
  have G2 : Hid (1 ≤ (x.take 60).length → ∀ v W, Reads .u8 W v (l ++ rowBytes (x.take 60) ++ t.take 30) → Calls Try.prog 29 #[v, .int .i64 l.length, .int .i64 (((x.take 60).length : Int) - 1)] W (MadeR W ([], 0, 3))) := Lib.hid (fun h1 v W hr => by
    have := getRow_any _ (by omega) hPb l.length (((x.take 60).length : Int) - 1) (by omega) v W hr
    rwa [gotRow_less hm1 h1] at this)
  have G3 : Hid (∀ j, j < (rowBytes (x.take 60)).length → ∀ v W, Reads .u8 W v ((l ++ rowBytes (x.take 60) ++ t.take 30).take (l.length + j)) → Calls Try.prog 29 #[v, .int .i64 l.length, .int .i64 (x.take 60).length] W (MadeR W ([], 0, 6))) := Lib.hid (fun j hj v W hr => by
    have := getRow_any ((l ++ rowBytes (x.take 60) ++ t.take 30).take (l.length + j)) (by rw [List.length_take]; omega) (fun z hz => hPb z (List.mem_of_mem_take hz)) l.length (x.take 60).length (by omega) v W hr
    rwa [gotRow_cut hm1 hmr hj] at this)
  have LA : Hid (∀ (W : World) (gp : Nat), Lie W gp 0 (l ++ rowBytes (x.take 60) ++ t.take 30) → Lie W gp l.length (rowBytes (x.take 60))) := Lib.hid (fun W gp hlie i z hz => by
    have := hlie (l.length + i) z (by rw [List.append_assoc, List.getElem?_append_right (by omega), Nat.add_sub_cancel_left, List.getElem?_append_left (List.getElem?_eq_some_iff.1 hz).1]; exact hz)
    rwa [Nat.zero_add] at this)
  generalize rowBytes (x.take 60) = D at *
  generalize t.take 30 = T at *
  obtain ⟨k1, hk1⟩ : ∃ k, D.length = k := ⟨_, rfl⟩
  rw [hk1] at hD G1 G3
  have HD1 := Lib.hid hk1
  rw [hml] at G1 G2 G3
  have PL : Hid ((l ++ D).length = l.length + k1) := Lib.hid (by simp [hk1])
  have PP : Hid ((l ++ D ++ T).length = l.length + k1 + t.length) := Lib.hid (by simp [hk1, htl, Nat.add_assoc])
  have HTL := Lib.hid htl
  have HML := Lib.hid hml
  have EQ1 := Lib.hid (fun v v2 W (h1 : Reads .u8 W v D) (h2 : Reads .u8 W v2 D) => equalB D D (by omega) v v2 W h1 h2)
  rw [eqB_true rfl] at EQ1
  have SE := Lib.hid (@same_row D k1 hk1 hD.2)
  generalize x.take 60 = ms at *
  have hms := HML.out
  clear h hbb hbl hlb hk1 hxr hk0 hmr hDb hkt htr htb hPb hPl hml htl hms
  go_enter Try.func9, Try.ntmps9
  go_wp2_with fail
  refine (wakes_any _).mono ?_
  rintro e w1 ⟨rfl, hb1⟩
  have B1 := Lib.hid hb1
  clear hb1
  go_wp2_with fail
  refine (CX.out _ B1.out).mono ?_
  rintro e w2 ⟨v2, rfl, hb2, ho2⟩
  obtain ⟨A2, c2, rfl⟩ := made_len ho2
  have B2 := Lib.hid (under B1.out hb2)
  have M2 := Lib.hid (reads_own ho2)
  rw [HML.out]
  rw [HML.out] at M2
  clear hb2 ho2 B1
  go_wp2_with fail
  refine (HH.out _ B2.out).mono ?_
  intro e w3 hhead
  obtain ⟨g, cap, rfl, hb3, hg, hcap, hlie, _⟩ := head_parts hhead
  have B3 := Lib.hid (under B2.out hb3)
  have LI3 := Lib.hid hlie.left
  have M3 := Lib.hid (M2.out.below hb3)
  have T3 := Lib.hid (RT.out.below B3.out)
  clear hb3 hhead hlie B2 M2
  go_wp2_with fail
  have f1 : ¬ (30 : Int) < (t.length : Int) := by omega
  have f2 : (t.length : Int) ≤ (ct : Int) := by omega
  refine region_keeps (w0 := w3) (L := []) (by kernel_rfl) (⟨Below.refl _ _, trivial⟩) (fun hHeld0 => ?_)
  refine wpAnyH_take (i := 0) (oi := ⟨some 30, _, _, _, _, _⟩) (v := ?_) rfl (by kernel_rfl) (by kernel_rfl) (by kernel_rfl) (fun _ _ _ h => h) (Or.inl ⟨by rfl, ?_⟩) (by assumption) ?_
  rotate_left
  · intro wq hSw; go_simp; (try with_reducible rfl)
  try simp only [Act.put, List.setIfInBounds_toArray, List.set_cons_zero, List.set_cons_succ]
  refine wpAnyH_take (i := 1) (oi := ⟨some 31, _, _, _, _, _⟩) (v := ?_) rfl (by kernel_rfl) (by kernel_rfl) (by kernel_rfl) (fun _ _ _ h => h) (Or.inl ⟨by rfl, ?_⟩) (by assumption) ?_
  rotate_left
  · intro wq hSw; go_simp; (try with_reducible rfl)
  try simp only [Act.put, List.setIfInBounds_toArray, List.set_cons_zero, List.set_cons_succ]
  refine wpAnyH_take (i := 3) (oi := ⟨some 33, _, _, _, _, _⟩) (v := ?_) rfl (by kernel_rfl) (by kernel_rfl) (by kernel_rfl) (fun _ _ _ h => h) (Or.inl ⟨by rfl, ?_⟩) (by assumption) ?_
  rotate_left
  · intro wq hSw; go_simp; (try with_reducible rfl)
  try simp only [Act.put, List.setIfInBounds_toArray, List.set_cons_zero, List.set_cons_succ]
  refine wpAnyH_take (i := 4) (oi := ⟨some 34, _, _, _, _, _⟩) (v := ?_) rfl (by kernel_rfl) (by kernel_rfl) (by kernel_rfl) (fun _ _ _ h => h) (Or.inl ⟨by rfl, ?_⟩) (by assumption) ?_
  rotate_left
  · intro wq hSw; go_simp; (try with_reducible rfl)
  try simp only [Act.put, List.setIfInBounds_toArray, List.set_cons_zero, List.set_cons_succ]
  refine wpAnyH_take (i := 5) (oi := ⟨some 35, _, _, _, _, _⟩) (v := ?_) rfl (by kernel_rfl) (by kernel_rfl) (by kernel_rfl) (fun _ _ _ h => h) (Or.inl ⟨by rfl, ?_⟩) (by assumption) ?_
  rotate_left
  · intro wq hSw; go_simp; (try with_reducible rfl)
  try simp only [Act.put, List.setIfInBounds_toArray, List.set_cons_zero, List.set_cons_succ]
  refine wpAnyH_take (i := 6) (oi := ⟨some 36, _, _, _, _, _⟩) (v := ?_) rfl (by kernel_rfl) (by kernel_rfl) (by kernel_rfl) (fun _ _ _ h => h) (Or.inl ⟨by rfl, ?_⟩) (by assumption) ?_
  rotate_left
  · intro wq hSw; go_simp; (try with_reducible rfl)
  try simp only [Act.put, List.setIfInBounds_toArray, List.set_cons_zero, List.set_cons_succ]
  refine wpAnyH_take (i := 7) (oi := ⟨some 37, _, _, _, _, _⟩) (v := ?_) rfl (by kernel_rfl) (by kernel_rfl) (by kernel_rfl) (fun _ _ _ h => h) (Or.inl ⟨by rfl, ?_⟩) (by assumption) ?_
  rotate_left
  · intro wq hSw; go_simp; (try with_reducible rfl)
  try simp only [Act.put, List.setIfInBounds_toArray, List.set_cons_zero, List.set_cons_succ]
  refine wpAnyH_ready (rs := [2]) (by kernel_rfl) (by simp) ?_
  refine AllReadyH.cons (o := ⟨some 32, _, _, _, _, _⟩) rfl (fun K hK => ?_) AllReadyH.nil
  go_simp
  (with_reducible refine (PR0.out _ _ _ (reads_lie (c := cap) (LI3.out.below hg (Keeps.low (by assumption))) (Nat.lt_of_lt_of_le hg (Keeps.low (by assumption)).size) (by omega)) (M3.out.below (Keeps.low (by assumption)))).mono ?_); rintro e w4 ⟨v4, rfl, hb, ho⟩; have HO4 : Hid (w4.ownsRow w3.heap.size 5 1 v4 (l ++ D).length ((l ++ D).map (Value.int .u8))) := Lib.hid ho; clear ho
  refine hK.out _ _ (hHeld0.next hb) (fun hHeld1 => ?_)
  clear hK K
  try clear hb
  try simp only [Act.put, List.setIfInBounds_toArray, List.set_cons_zero, List.set_cons_succ]
  refine wpAnyH_ready (rs := [8]) (by kernel_rfl) (by simp) ?_
  refine AllReadyH.cons (o := ⟨some 38, _, _, _, _, _⟩) rfl (fun K hK => ?_) AllReadyH.nil
  (refine if_wanted rfl ?_; refine wp_append_own _ (.tmp 32) (.tmp 37) 22 rfl w3.heap.size 5 i0 (.int .u8 0) 1 1 Try.underlying22 hi hz0 hz1 hz2 rfl (by decide) v4 _ _ rfl HO4.out ad t.length ct (T.map (Value.int .u8)) rfl (by simp [HTL.out]) (fun j u hj => reads_add (by rw [HTL.out]; exact T3.out.below (Keeps.low hHeld1)) hj) (fun u hu => by obtain ⟨x, _, rfl⟩ := List.mem_map.1 hu; rfl) (by rw [PL.out]; unfold maxLen; omega) (by rw [PL.out]; omega) (Keeps.low hHeld1).size (fun v5 w5 hown5 hgrow5 _ => ?_))
  refine hK.out _ _ (⟨(Keeps.low hHeld1).grown hgrow5 (Keeps.low hHeld1).size (fun j hj => (HO4.out.lt j hj).1), trivial⟩) (fun hHeld2 => ?_)
  clear hK K
  try clear hb
  try simp only [Act.put, List.setIfInBounds_toArray, List.set_cons_zero, List.set_cons_succ]
  refine wpAnyH_take (i := 9) (oi := ⟨some 9, _, _, _, _, _⟩) (v := ?_) rfl (by kernel_rfl) (by kernel_rfl) (by kernel_rfl) (fun _ _ _ h => h) (Or.inl ⟨by rfl, ?_⟩) (by assumption) ?_
  rotate_left
  · intro wq hSw; go_simp; (try with_reducible rfl)
  try simp only [Act.put, List.setIfInBounds_toArray, List.set_cons_zero, List.set_cons_succ]
  refine wpAnyH_done (by kernel_rfl) ?_ _
  have hHeld := hHeld2
  have RO : Hid (w5.ownsRow w3.heap.size 5 1 v5 (l ++ D ++ T).length ((l ++ D ++ T).map (Value.int .u8))) := Lib.hid (by rw [List.map_append, PP.out, ← PL.out]; exact hown5)
  clear hown5 hgrow5
  have hHeld5 := hHeld
  clear HO4 hHeld
  obtain ⟨gp, cp, rfl, hcp, i5, lip, _, _⟩ := owns_parts RO.out PP.out (by omega)
  have B5 := Lib.hid (under B3.out hHeld5.1)
  have M5 := Lib.hid (M3.out.below hHeld5.1)
  have P5 := Lib.hid lip
  clear hHeld5 B3 M3 LI3 T3 RO lip
  go_wp2_with fail
  refine (G1.out _ _ (by rw [← PP.out]; exact reads_lie P5.out i5 (by rw [PP.out]; omega))).mono ?_
  rintro e w6 ⟨v6, rfl, hb6, ho6⟩
  have B6 := Lib.hid (under B5.out hb6)
  have M6 := Lib.hid (M5.out.below hb6)
  have P6 := Lib.hid (P5.out.below i5 hb6)
  have R6 := Lib.hid (reads_own (l := ms) ho6)
  have i6 : gp < w6.heap.size := Nat.lt_of_lt_of_le i5 hb6.size
  clear hb6 ho6 B5 M5 P5 i5
  have s1 : (0 : Int) ≤ (l.length : Int) + (k1 : Int) := by omega
  have s2 : (l.length : Int) + (k1 : Int) ≤ (cp : Int) := by omega
  have s4 : ¬ cp = l.length := by omega
  have s3 : ((l.length : Int) + (k1 : Int)).toNat = l.length + k1 := by omega
  go_wp2_with fail
  refine region_keeps (w0 := w6) (L := []) (by kernel_rfl) (⟨Below.refl _ _, trivial⟩) (fun hHeld0 => ?_)
  refine wpAnyH_take (i := 0) (oi := ⟨some 49, _, _, _, _, _⟩) (v := ?_) rfl (by kernel_rfl) (by kernel_rfl) (by kernel_rfl) (fun _ _ _ h => h) (Or.inl ⟨by rfl, ?_⟩) (by assumption) ?_
  rotate_left
  · intro wq hSw; go_simp; (try with_reducible rfl)
  try simp only [Act.put, List.setIfInBounds_toArray, List.set_cons_zero, List.set_cons_succ]
  refine wpAnyH_take (i := 1) (oi := ⟨some 50, _, _, _, _, _⟩) (v := ?_) rfl (by kernel_rfl) (by kernel_rfl) (by kernel_rfl) (fun _ _ _ h => h) (Or.inl ⟨by rfl, ?_⟩) (by assumption) ?_
  rotate_left
  · intro wq hSw; go_simp; (try with_reducible rfl)
  try simp only [Act.put, List.setIfInBounds_toArray, List.set_cons_zero, List.set_cons_succ]
  refine wpAnyH_take (i := 2) (oi := ⟨some 51, _, _, _, _, _⟩) (v := ?_) rfl (by kernel_rfl) (by kernel_rfl) (by kernel_rfl) (fun _ _ _ h => h) (Or.inl ⟨by rfl, ?_⟩) (by assumption) ?_
  rotate_left
  · intro wq hSw; go_simp; (try with_reducible rfl)
  try simp only [Act.put, List.setIfInBounds_toArray, List.set_cons_zero, List.set_cons_succ]
  refine wpAnyH_take (i := 3) (oi := ⟨some 52, _, _, _, _, _⟩) (v := ?_) rfl (by kernel_rfl) (by kernel_rfl) (by kernel_rfl) (fun _ _ _ h => h) (Or.inl ⟨by rfl, ?_⟩) (by assumption) ?_
  rotate_left
  · intro wq hSw; go_simp; (try with_reducible rfl)
  try simp only [Act.put, List.setIfInBounds_toArray, List.set_cons_zero, List.set_cons_succ]
  refine wpAnyH_take (i := 4) (oi := ⟨some 53, _, _, _, _, _⟩) (v := ?_) rfl (by kernel_rfl) (by kernel_rfl) (by kernel_rfl) (fun _ _ _ h => h) (Or.inl ⟨by rfl, ?_⟩) (by assumption) ?_
  rotate_left
  · intro wq hSw; go_simp; (try with_reducible rfl)
  try simp only [Act.put, List.setIfInBounds_toArray, List.set_cons_zero, List.set_cons_succ]
  refine wpAnyH_ready (rs := [5]) (by kernel_rfl) (by simp) ?_
  refine AllReadyH.cons (o := ⟨some 54, _, _, _, _, _⟩) rfl (fun K hK => ?_) AllReadyH.nil
  go_simp
  (first | ((with_reducible refine (EI.out _ _ _ (R6.out.below (Keeps.low (by assumption))) (M6.out.below (Keeps.low (by assumption)))).mono ?_); rintro e w7 ⟨rfl, hb⟩) | ((with_reducible refine (PN0.out _ _ (R6.out.below (Keeps.low (by assumption)))).mono ?_); rintro e w7 ⟨v7, rfl, hb, ho⟩; obtain ⟨g7, c7, rfl, hc7, hg7, li7, _, _⟩ := owns_parts ho HD1.out (by omega); have L7 := Lib.hid li7; clear ho li7) | ((with_reducible refine (SE.out g7 c7 gp l.length (cp - l.length) _ L7.out hg7 hc7 (LA.out _ _ (P6.out.below i6 (Keeps.low (by assumption)))) (Nat.lt_of_lt_of_le i6 (Keeps.low (by assumption)).size) (by omega)).mono ?_); rintro e w8 ⟨rfl, hb⟩))
  refine hK.out _ _ (hHeld0.next hb) (fun hHeld1 => ?_)
  clear hK K
  try clear hb
  try simp only [Act.put, List.setIfInBounds_toArray, List.set_cons_zero, List.set_cons_succ]
  refine wpAnyH_take (i := 6) (oi := ⟨some 55, _, _, _, _, _⟩) (v := ?_) rfl (by kernel_rfl) (by kernel_rfl) (by kernel_rfl) (fun _ _ _ h => h) (Or.inl ⟨by rfl, ?_⟩) (by assumption) ?_
  rotate_left
  · intro wq hSw; go_simp; (try with_reducible rfl)
  try simp only [Act.put, List.setIfInBounds_toArray, List.set_cons_zero, List.set_cons_succ]
  refine wpAnyH_take (i := 7) (oi := ⟨some 56, _, _, _, _, _⟩) (v := ?_) rfl (by kernel_rfl) (by kernel_rfl) (by kernel_rfl) (fun _ _ _ h => h) (Or.inl ⟨by rfl, ?_⟩) (by assumption) ?_
  rotate_left
  · intro wq hSw; go_simp; (try with_reducible rfl)
  try simp only [Act.put, List.setIfInBounds_toArray, List.set_cons_zero, List.set_cons_succ]
  refine wpAnyH_take (i := 8) (oi := ⟨some 57, _, _, _, _, _⟩) (v := ?_) rfl (by kernel_rfl) (by kernel_rfl) (by kernel_rfl) (fun _ _ _ h => h) (Or.inl ⟨by rfl, ?_⟩) (by assumption) ?_
  rotate_left
  · intro wq hSw; go_simp; (try with_reducible rfl)
  try simp only [Act.put, List.setIfInBounds_toArray, List.set_cons_zero, List.set_cons_succ]
  refine wpAnyH_take (i := 9) (oi := ⟨some 58, _, _, _, _, _⟩) (v := ?_) rfl (by kernel_rfl) (by kernel_rfl) (by kernel_rfl) (fun _ _ _ h => h) (Or.inl ⟨by rfl, ?_⟩) (by assumption) ?_
  rotate_left
  · intro wq hSw; go_simp; (try with_reducible rfl)
  try simp only [Act.put, List.setIfInBounds_toArray, List.set_cons_zero, List.set_cons_succ]
  refine wpAnyH_take (i := 11) (oi := ⟨some 60, _, _, _, _, _⟩) (v := ?_) rfl (by kernel_rfl) (by kernel_rfl) (by kernel_rfl) (fun _ _ _ h => h) (Or.inl ⟨by rfl, ?_⟩) (by assumption) ?_
  rotate_left
  · intro wq hSw; go_simp; (try with_reducible rfl)
  try simp only [Act.put, List.setIfInBounds_toArray, List.set_cons_zero, List.set_cons_succ]
  refine wpAnyH_take (i := 12) (oi := ⟨some 61, _, _, _, _, _⟩) (v := ?_) rfl (by kernel_rfl) (by kernel_rfl) (by kernel_rfl) (fun _ _ _ h => h) (Or.inl ⟨by rfl, ?_⟩) (by assumption) ?_
  rotate_left
  · intro wq hSw; go_simp; (try with_reducible rfl)
  try simp only [Act.put, List.setIfInBounds_toArray, List.set_cons_zero, List.set_cons_succ]
  refine wpAnyH_take (i := 13) (oi := ⟨some 62, _, _, _, _, _⟩) (v := ?_) rfl (by kernel_rfl) (by kernel_rfl) (by kernel_rfl) (fun _ _ _ h => h) (Or.inl ⟨by rfl, ?_⟩) (by assumption) ?_
  rotate_left
  · intro wq hSw; go_simp; (try with_reducible rfl)
  try simp only [Act.put, List.setIfInBounds_toArray, List.set_cons_zero, List.set_cons_succ]
  refine wpAnyH_take (i := 14) (oi := ⟨some 63, _, _, _, _, _⟩) (v := ?_) rfl (by kernel_rfl) (by kernel_rfl) (by kernel_rfl) (fun _ _ _ h => h) (Or.inl ⟨by rfl, ?_⟩) (by assumption) ?_
  rotate_left
  · intro wq hSw; go_simp; (try with_reducible rfl)
  try simp only [Act.put, List.setIfInBounds_toArray, List.set_cons_zero, List.set_cons_succ]
  refine wpAnyH_take (i := 15) (oi := ⟨some 64, _, _, _, _, _⟩) (v := ?_) rfl (by kernel_rfl) (by kernel_rfl) (by kernel_rfl) (fun _ _ _ h => h) (Or.inl ⟨by rfl, ?_⟩) (by assumption) ?_
  rotate_left
  · intro wq hSw; go_simp; (try with_reducible rfl)
  try simp only [Act.put, List.setIfInBounds_toArray, List.set_cons_zero, List.set_cons_succ]
  refine wpAnyH_ready (rs := [10]) (by kernel_rfl) (by simp) ?_
  refine AllReadyH.cons (o := ⟨some 59, _, _, _, _, _⟩) rfl (fun K hK => ?_) AllReadyH.nil
  go_simp
  (first | ((with_reducible refine (EI.out _ _ _ (R6.out.below (Keeps.low (by assumption))) (M6.out.below (Keeps.low (by assumption)))).mono ?_); rintro e w7 ⟨rfl, hb⟩) | ((with_reducible refine (PN0.out _ _ (R6.out.below (Keeps.low (by assumption)))).mono ?_); rintro e w7 ⟨v7, rfl, hb, ho⟩; obtain ⟨g7, c7, rfl, hc7, hg7, li7, _, _⟩ := owns_parts ho HD1.out (by omega); have L7 := Lib.hid li7; clear ho li7) | ((with_reducible refine (SE.out g7 c7 gp l.length (cp - l.length) _ L7.out hg7 hc7 (LA.out _ _ (P6.out.below i6 (Keeps.low (by assumption)))) (Nat.lt_of_lt_of_le i6 (Keeps.low (by assumption)).size) (by omega)).mono ?_); rintro e w8 ⟨rfl, hb⟩))
  refine hK.out _ _ (hHeld1.next hb) (fun hHeld2 => ?_)
  clear hK K
  try clear hb
  try simp only [Act.put, List.setIfInBounds_toArray, List.set_cons_zero, List.set_cons_succ]
  refine wpAnyH_ready (rs := [16]) (by kernel_rfl) (by simp) ?_
  refine AllReadyH.cons (o := ⟨some 65, _, _, _, _, _⟩) rfl (fun K hK => ?_) AllReadyH.nil
  go_simp
  (first | ((with_reducible refine (EI.out _ _ _ (R6.out.below (Keeps.low (by assumption))) (M6.out.below (Keeps.low (by assumption)))).mono ?_); rintro e w7 ⟨rfl, hb⟩) | ((with_reducible refine (PN0.out _ _ (R6.out.below (Keeps.low (by assumption)))).mono ?_); rintro e w7 ⟨v7, rfl, hb, ho⟩; obtain ⟨g7, c7, rfl, hc7, hg7, li7, _, _⟩ := owns_parts ho HD1.out (by omega); have L7 := Lib.hid li7; clear ho li7) | ((with_reducible refine (SE.out g7 c7 gp l.length (cp - l.length) _ L7.out hg7 hc7 (LA.out _ _ (P6.out.below i6 (Keeps.low (by assumption)))) (Nat.lt_of_lt_of_le i6 (Keeps.low (by assumption)).size) (by omega)).mono ?_); rintro e w8 ⟨rfl, hb⟩))
  refine hK.out _ _ (hHeld2.next hb) (fun hHeld3 => ?_)
  clear hK K
  try clear hb
  try simp only [Act.put, List.setIfInBounds_toArray, List.set_cons_zero, List.set_cons_succ]
  refine wpAnyH_take (i := 17) (oi := ⟨some 66, _, _, _, _, _⟩) (v := ?_) rfl (by kernel_rfl) (by kernel_rfl) (by kernel_rfl) (fun _ _ _ h => h) (Or.inl ⟨by rfl, ?_⟩) (by assumption) ?_
  rotate_left
  · intro wq hSw; go_simp; (try with_reducible rfl)
  try simp only [Act.put, List.setIfInBounds_toArray, List.set_cons_zero, List.set_cons_succ]
  refine wpAnyH_take (i := 18) (oi := ⟨some 67, _, _, _, _, _⟩) (v := ?_) rfl (by kernel_rfl) (by kernel_rfl) (by kernel_rfl) (fun _ _ _ h => h) (Or.inl ⟨by rfl, ?_⟩) (by assumption) ?_
  rotate_left
  · intro wq hSw; go_simp; (try with_reducible rfl)
  try simp only [Act.put, List.setIfInBounds_toArray, List.set_cons_zero, List.set_cons_succ]
  refine wpAnyH_done (by kernel_rfl) ?_ _
  have hHeld := hHeld3
  clear s1 s2 s3 s4
  have B8 := Lib.hid (under B6.out hHeld.1)
  have P8 := Lib.hid (P6.out.below i6 hHeld.1)
  have i8 : gp < w8.heap.size := Nat.lt_of_lt_of_le i6 hHeld.1.size
  clear hHeld B6 M6 P6 R6 i6 L7 hg7 hc7
  by_cases gx0 : 1 ≤ x.length
  · have ix0 : (0 : Int) < (x.length : Int) := by omega
    go_wp2_with fail
    refine (G2.out (by omega) _ _ (by rw [← PP.out]; exact reads_lie P8.out i8 (by rw [PP.out]; omega))).mono ?_
    rintro e w9 ⟨v9, rfl, hb9, _⟩
    have B9 := Lib.hid (under B8.out hb9)
    have P9 := Lib.hid (P8.out.below i8 hb9)
    have i9 : gp < w9.heap.size := Nat.lt_of_lt_of_le i8 hb9.size
    clear hb9 B8 P8 i8
    go_wp2_with fail
    go_loopw [16] (fun i wr => ∃ k : Nat, i = .int .i64 k ∧ l.length ≤ k ∧ k ≤ l.length + k1 ∧ Below w9.heap.size w9 wr) (fun i _ => l.length + k1 - (intOf i).toNat)
    case atStart => exact ⟨l.length, rfl, by omega, by omega, Below.refl _ _⟩
    case round =>
      obtain ⟨k, rfl, hk1, hk2, hBr⟩ := hrel
      by_cases gk : k < l.length + k1
      · have GK := Lib.hid (G3.out (k - l.length) (by omega) (.slice (some ⟨gp, 0, none⟩) k cp) wr (by
          have := reads_take (reads_lie (c := cp) (P9.out.below i9 hBr) (Nat.lt_of_lt_of_le i9 hBr.size) (by rw [PP.out]; omega)) k (by rw [PP.out]; omega)
          rwa [show l.length + (k - l.length) = k from by omega]))
        have ik : (k : Int) < (l.length : Int) + (k1 : Int) := by omega
        go_wp2_with fail
        refine GK.out.mono ?_
        rintro e w10 ⟨v10, rfl, hb10, _⟩
        have hB10 := under hBr hb10
        clear hb10 hBr GK
        go_wp2_with fail
        go_roundw
        case rel => exact ⟨k + 1, by simp, by omega, by omega, hB10⟩
        case measure => simp [intOf]; omega
      · have B10 := Lib.hid (under B9.out hBr)
        have ik : ¬ (k : Int) < (l.length : Int) + (k1 : Int) := by omega
        clear hBr
        go_wp2_with fail
        go_ret
        exact ⟨rfl, B10.out⟩
  · have ix0 : ¬ (0 : Int) < (x.length : Int) := by omega
    obtain ⟨w9, hw9⟩ : ∃ y, y = w8 := ⟨_, rfl⟩
    have B9 : Hid (Below w.heap.size w w9) := by rw [hw9]; exact B8
    have P9 : Hid (Lie w9 gp 0 (l ++ D ++ T)) := by rw [hw9]; exact P8
    have i9 : gp < w9.heap.size := by rw [hw9]; exact i8
    rw [← hw9]
    clear hw9 B8 P8 i8
    go_wp2_with fail
    go_loopw [16] (fun i wr => ∃ k : Nat, i = .int .i64 k ∧ l.length ≤ k ∧ k ≤ l.length + k1 ∧ Below w9.heap.size w9 wr) (fun i _ => l.length + k1 - (intOf i).toNat)
    case atStart => exact ⟨l.length, rfl, by omega, by omega, Below.refl _ _⟩
    case round =>
      obtain ⟨k, rfl, hk1, hk2, hBr⟩ := hrel
      by_cases gk : k < l.length + k1
      · have GK := Lib.hid (G3.out (k - l.length) (by omega) (.slice (some ⟨gp, 0, none⟩) k cp) wr (by
          have := reads_take (reads_lie (c := cp) (P9.out.below i9 hBr) (Nat.lt_of_lt_of_le i9 hBr.size) (by rw [PP.out]; omega)) k (by rw [PP.out]; omega)
          rwa [show l.length + (k - l.length) = k from by omega]))
        have ik : (k : Int) < (l.length : Int) + (k1 : Int) := by omega
        go_wp2_with fail
        refine GK.out.mono ?_
        rintro e w10 ⟨v10, rfl, hb10, _⟩
        have hB10 := under hBr hb10
        clear hb10 hBr GK
        go_wp2_with fail
        go_roundw
        case rel => exact ⟨k + 1, by simp, by omega, by omega, hB10⟩
        case measure => simp [intOf]; omega
      · have B10 := Lib.hid (under B9.out hBr)
        have ik : ¬ (k : Int) < (l.length : Int) + (k1 : Int) := by omega
        clear hBr
        go_wp2_with fail
        go_ret
        exact ⟨rfl, B10.out⟩

set_option maxRecDepth 100000 in
set_option maxHeartbeats 16000000 in
theorem list_sb (b : List Int) (hbl : b.length ≤ 9223372036854775807) (hbb : ∀ z ∈ b, 0 ≤ z ∧ z < 256) (x : List Int) (hx : x.length ≤ 60) (hxr : ∀ z ∈ x, -9223372036854775808 ≤ z ∧ z ≤ 9223372036854775807) (t : List Int) (ht : 30 < t.length ∧ t.length ≤ 9223372036854775807) (htb : ∀ z ∈ t, 0 ≤ z ∧ z < 256) (v v0 vt : Value) (w : World) (h : Reads .u8 w v b) (h0 : Reads .i64 w v0 x) (h2 : Reads .u8 w vt t) (hnil : ∀ n c, vt ≠ .slice none n c) :
    Calls Try.prog 9 #[v, v0, vt] w (Ret w (.bool true)) := by
  obtain ⟨i0, hi, hz0, hz1, hz2⟩ := info_parts infoU8
  have HH := Lib.hid (fun W (hb : Below w.heap.size w W) => head_any b hbl v W (h.below hb))
  have hl4 : (b.take 400).length ≤ 400 := by simp; omega
  have hlb : ∀ z ∈ b.take 400, 0 ≤ z ∧ z < 256 := fun z hz => hbb z (List.mem_of_mem_take hz)
  generalize b.take 400 = l at *
  obtain ⟨A0, c0, rfl, hc0, hk0⟩ := h0
  obtain ⟨At, ct, rfl, hct, hkt⟩ := h2
  obtain ⟨ad, rfl⟩ : ∃ ad, At = some ad := by
    cases At with
    | none => exact absurd rfl (hnil _ _)
    | some ad => exact ⟨ad, rfl⟩
  clear hnil
  have hm1 : (x.take 60).length ≤ 60 := by simp; omega
  have hml : (x.take 60).length = x.length := by simp; omega
  have hmr : ∀ z ∈ x.take 60, -9223372036854775808 ≤ z ∧ z ≤ 9223372036854775807 := fun z hz => hxr z (List.mem_of_mem_take hz)
  have RX : Hid (Reads .i64 w (.slice A0 x.length c0) (x.take 60)) := Lib.hid (by
    have := reads_take (A := A0) (c := c0) ⟨A0, c0, rfl, hc0, hk0⟩ (x.take 60).length (by simp; omega)
    rw [hml] at this
    have e : x.take x.length = x.take 60 := by rw [List.take_of_length_le (Nat.le_refl _), List.take_of_length_le hx]
    rwa [e] at this)
  have ht1 : (t.take 30).length ≤ 30 := by simp; omega
  have htl : (t.take 30).length = 30 := by simp; omega
  have htr : ∀ z ∈ t.take 30, 0 ≤ z ∧ z < 256 := fun z hz => htb z (List.mem_of_mem_take hz)
  have RT : Hid (Reads .u8 w (.slice (some ad) 30 ct) (t.take 30)) := Lib.hid (by
    have := reads_take (A := some ad) (c := ct) ⟨some ad, ct, rfl, hct, hkt⟩ (t.take 30).length (by simp; omega)
    rw [htl] at this
    have e : t.take 30 = t.take 30 := by rfl
    rwa [e] at this)
  have CX := Lib.hid (fun W (hb : Below w.heap.size w W) => cloneI (x.take 60) (by omega) _ W (RX.out.below hb))
  have EI := Lib.hid (fun v1 v2 W (h1 : Reads .i64 W v1 (x.take 60)) (h2 : Reads .i64 W v2 (x.take 60)) => equalI (x.take 60) (x.take 60) (by omega) v1 v2 W h1 h2)
  rw [eqB_true rfl] at EI
  have PR0 := Lib.hid (fun v1 v2 W (h1 : Reads .u8 W v1 l) (h2 : Reads .i64 W v2 (x.take 60)) => putRow_any l (by omega) (x.take 60) (by omega) hmr v1 v2 W h1 h2)
  have PN0 := Lib.hid (fun v2 W (h2 : Reads .i64 W v2 (x.take 60)) => putRow_any [] (by simp) (x.take 60) (by omega) hmr _ v2 W (Reads.nil (k := .u8)) h2)
  rw [List.nil_append] at PN0
  have hD := rowBytes_len hm1 hmr
  have hDb := rowBytes_b (by omega) hmr
  have hPb : ∀ z ∈ l ++ rowBytes (x.take 60) ++ t.take 30, 0 ≤ z ∧ z < 256 := fun z hz' => by
    rcases List.mem_append.1 hz' with hz' | hz'
    · rcases List.mem_append.1 hz' with hz' | hz'
      · exact hlb z hz'
      · exact hDb z hz'
    · exact htr z hz'
  have hPl : (l ++ rowBytes (x.take 60) ++ t.take 30).length ≤ 2000 := by rw [List.length_append, List.length_append]; omega
  have G1 := Lib.hid (fun v W (hr : Reads .u8 W v (l ++ rowBytes (x.take 60) ++ t.take 30)) => getRow_any _ (by omega) hPb l.length (x.take 60).length (by omega) v W hr)
  rw [gotRow_put hm1 hmr] at G1
  have G2 : Hid (1 ≤ (x.take 60).length → ∀ v W, Reads .u8 W v (l ++ rowBytes (x.take 60) ++ t.take 30) → Calls Try.prog 29 #[v, .int .i64 l.length, .int .i64 (((x.take 60).length : Int) - 1)] W (MadeR W ([], 0, 3))) := Lib.hid (fun h1 v W hr => by
    have := getRow_any _ (by omega) hPb l.length (((x.take 60).length : Int) - 1) (by omega) v W hr
    rwa [gotRow_less hm1 h1] at this)
  have G3 : Hid (∀ j, j < (rowBytes (x.take 60)).length → ∀ v W, Reads .u8 W v ((l ++ rowBytes (x.take 60) ++ t.take 30).take (l.length + j)) → Calls Try.prog 29 #[v, .int .i64 l.length, .int .i64 (x.take 60).length] W (MadeR W ([], 0, 6))) := Lib.hid (fun j hj v W hr => by
    have := getRow_any ((l ++ rowBytes (x.take 60) ++ t.take 30).take (l.length + j)) (by rw [List.length_take]; omega) (fun z hz => hPb z (List.mem_of_mem_take hz)) l.length (x.take 60).length (by omega) v W hr
    rwa [gotRow_cut hm1 hmr hj] at this)
  have LA : Hid (∀ (W : World) (gp : Nat), Lie W gp 0 (l ++ rowBytes (x.take 60) ++ t.take 30) → Lie W gp l.length (rowBytes (x.take 60))) := Lib.hid (fun W gp hlie i z hz => by
    have := hlie (l.length + i) z (by rw [List.append_assoc, List.getElem?_append_right (by omega), Nat.add_sub_cancel_left, List.getElem?_append_left (List.getElem?_eq_some_iff.1 hz).1]; exact hz)
    rwa [Nat.zero_add] at this)
  generalize rowBytes (x.take 60) = D at *
  generalize t.take 30 = T at *
  obtain ⟨k1, hk1⟩ : ∃ k, D.length = k := ⟨_, rfl⟩
  rw [hk1] at hD G1 G3
  have HD1 := Lib.hid hk1
  rw [hml] at G1 G2 G3
  have PL : Hid ((l ++ D).length = l.length + k1) := Lib.hid (by simp [hk1])
  have PP : Hid ((l ++ D ++ T).length = l.length + k1 + 30) := Lib.hid (by simp [hk1, htl, Nat.add_assoc])
  have HTL := Lib.hid htl
  have HML := Lib.hid hml
  have EQ1 := Lib.hid (fun v v2 W (h1 : Reads .u8 W v D) (h2 : Reads .u8 W v2 D) => equalB D D (by omega) v v2 W h1 h2)
  rw [eqB_true rfl] at EQ1
  have SE := Lib.hid (@same_row D k1 hk1 hD.2)
  generalize x.take 60 = ms at *
  have hms := HML.out
  clear h hbb hbl hlb hk1 hxr hk0 hmr hDb hkt htr htb hPb hPl hml htl hms
  go_enter Try.func9, Try.ntmps9
  go_wp2_with fail
  refine (wakes_any _).mono ?_
  rintro e w1 ⟨rfl, hb1⟩
  have B1 := Lib.hid hb1
  clear hb1
  go_wp2_with fail
  refine (CX.out _ B1.out).mono ?_
  rintro e w2 ⟨v2, rfl, hb2, ho2⟩
  obtain ⟨A2, c2, rfl⟩ := made_len ho2
  have B2 := Lib.hid (under B1.out hb2)
  have M2 := Lib.hid (reads_own ho2)
  rw [HML.out]
  rw [HML.out] at M2
  clear hb2 ho2 B1
  go_wp2_with fail
  refine (HH.out _ B2.out).mono ?_
  intro e w3 hhead
  obtain ⟨g, cap, rfl, hb3, hg, hcap, hlie, _⟩ := head_parts hhead
  have B3 := Lib.hid (under B2.out hb3)
  have LI3 := Lib.hid hlie.left
  have M3 := Lib.hid (M2.out.below hb3)
  have T3 := Lib.hid (RT.out.below B3.out)
  clear hb3 hhead hlie B2 M2
  go_wp2_with fail
  have f1 : (30 : Int) < (t.length : Int) := by omega
  have f2 : (30 : Int) ≤ (ct : Int) := by omega
  refine region_keeps (w0 := w3) (L := []) (by kernel_rfl) (⟨Below.refl _ _, trivial⟩) (fun hHeld0 => ?_)
  refine wpAnyH_take (i := 0) (oi := ⟨some 30, _, _, _, _, _⟩) (v := ?_) rfl (by kernel_rfl) (by kernel_rfl) (by kernel_rfl) (fun _ _ _ h => h) (Or.inl ⟨by rfl, ?_⟩) (by assumption) ?_
  rotate_left
  · intro wq hSw; go_simp; (try with_reducible rfl)
  try simp only [Act.put, List.setIfInBounds_toArray, List.set_cons_zero, List.set_cons_succ]
  refine wpAnyH_take (i := 1) (oi := ⟨some 31, _, _, _, _, _⟩) (v := ?_) rfl (by kernel_rfl) (by kernel_rfl) (by kernel_rfl) (fun _ _ _ h => h) (Or.inl ⟨by rfl, ?_⟩) (by assumption) ?_
  rotate_left
  · intro wq hSw; go_simp; (try with_reducible rfl)
  try simp only [Act.put, List.setIfInBounds_toArray, List.set_cons_zero, List.set_cons_succ]
  refine wpAnyH_take (i := 3) (oi := ⟨some 33, _, _, _, _, _⟩) (v := ?_) rfl (by kernel_rfl) (by kernel_rfl) (by kernel_rfl) (fun _ _ _ h => h) (Or.inl ⟨by rfl, ?_⟩) (by assumption) ?_
  rotate_left
  · intro wq hSw; go_simp; (try with_reducible rfl)
  try simp only [Act.put, List.setIfInBounds_toArray, List.set_cons_zero, List.set_cons_succ]
  refine wpAnyH_take (i := 4) (oi := ⟨some 34, _, _, _, _, _⟩) (v := ?_) rfl (by kernel_rfl) (by kernel_rfl) (by kernel_rfl) (fun _ _ _ h => h) (Or.inl ⟨by rfl, ?_⟩) (by assumption) ?_
  rotate_left
  · intro wq hSw; go_simp; (try with_reducible rfl)
  try simp only [Act.put, List.setIfInBounds_toArray, List.set_cons_zero, List.set_cons_succ]
  refine wpAnyH_take (i := 5) (oi := ⟨some 35, _, _, _, _, _⟩) (v := ?_) rfl (by kernel_rfl) (by kernel_rfl) (by kernel_rfl) (fun _ _ _ h => h) (Or.inl ⟨by rfl, ?_⟩) (by assumption) ?_
  rotate_left
  · intro wq hSw; go_simp; (try with_reducible rfl)
  try simp only [Act.put, List.setIfInBounds_toArray, List.set_cons_zero, List.set_cons_succ]
  refine wpAnyH_take (i := 6) (oi := ⟨some 36, _, _, _, _, _⟩) (v := ?_) rfl (by kernel_rfl) (by kernel_rfl) (by kernel_rfl) (fun _ _ _ h => h) (Or.inl ⟨by rfl, ?_⟩) (by assumption) ?_
  rotate_left
  · intro wq hSw; go_simp; (try with_reducible rfl)
  try simp only [Act.put, List.setIfInBounds_toArray, List.set_cons_zero, List.set_cons_succ]
  refine wpAnyH_take (i := 7) (oi := ⟨some 37, _, _, _, _, _⟩) (v := ?_) rfl (by kernel_rfl) (by kernel_rfl) (by kernel_rfl) (fun _ _ _ h => h) (Or.inl ⟨by rfl, ?_⟩) (by assumption) ?_
  rotate_left
  · intro wq hSw; go_simp; (try with_reducible rfl)
  try simp only [Act.put, List.setIfInBounds_toArray, List.set_cons_zero, List.set_cons_succ]
  refine wpAnyH_ready (rs := [2]) (by kernel_rfl) (by simp) ?_
  refine AllReadyH.cons (o := ⟨some 32, _, _, _, _, _⟩) rfl (fun K hK => ?_) AllReadyH.nil
  go_simp
  (with_reducible refine (PR0.out _ _ _ (reads_lie (c := cap) (LI3.out.below hg (Keeps.low (by assumption))) (Nat.lt_of_lt_of_le hg (Keeps.low (by assumption)).size) (by omega)) (M3.out.below (Keeps.low (by assumption)))).mono ?_); rintro e w4 ⟨v4, rfl, hb, ho⟩; have HO4 : Hid (w4.ownsRow w3.heap.size 5 1 v4 (l ++ D).length ((l ++ D).map (Value.int .u8))) := Lib.hid ho; clear ho
  refine hK.out _ _ (hHeld0.next hb) (fun hHeld1 => ?_)
  clear hK K
  try clear hb
  try simp only [Act.put, List.setIfInBounds_toArray, List.set_cons_zero, List.set_cons_succ]
  refine wpAnyH_ready (rs := [8]) (by kernel_rfl) (by simp) ?_
  refine AllReadyH.cons (o := ⟨some 38, _, _, _, _, _⟩) rfl (fun K hK => ?_) AllReadyH.nil
  (refine if_wanted rfl ?_; refine wp_append_own _ (.tmp 32) (.tmp 37) 22 rfl w3.heap.size 5 i0 (.int .u8 0) 1 1 Try.underlying22 hi hz0 hz1 hz2 rfl (by decide) v4 _ _ rfl HO4.out ad 30 ct (T.map (Value.int .u8)) rfl (by simp [HTL.out]) (fun j u hj => reads_add (by rw [HTL.out]; exact T3.out.below (Keeps.low hHeld1)) hj) (fun u hu => by obtain ⟨x, _, rfl⟩ := List.mem_map.1 hu; rfl) (by rw [PL.out]; unfold maxLen; omega) (by rw [PL.out]; omega) (Keeps.low hHeld1).size (fun v5 w5 hown5 hgrow5 _ => ?_))
  refine hK.out _ _ (⟨(Keeps.low hHeld1).grown hgrow5 (Keeps.low hHeld1).size (fun j hj => (HO4.out.lt j hj).1), trivial⟩) (fun hHeld2 => ?_)
  clear hK K
  try clear hb
  try simp only [Act.put, List.setIfInBounds_toArray, List.set_cons_zero, List.set_cons_succ]
  refine wpAnyH_take (i := 9) (oi := ⟨some 9, _, _, _, _, _⟩) (v := ?_) rfl (by kernel_rfl) (by kernel_rfl) (by kernel_rfl) (fun _ _ _ h => h) (Or.inl ⟨by rfl, ?_⟩) (by assumption) ?_
  rotate_left
  · intro wq hSw; go_simp; (try with_reducible rfl)
  try simp only [Act.put, List.setIfInBounds_toArray, List.set_cons_zero, List.set_cons_succ]
  refine wpAnyH_done (by kernel_rfl) ?_ _
  have hHeld := hHeld2
  have RO : Hid (w5.ownsRow w3.heap.size 5 1 v5 (l ++ D ++ T).length ((l ++ D ++ T).map (Value.int .u8))) := Lib.hid (by rw [List.map_append, PP.out, ← PL.out]; exact hown5)
  clear hown5 hgrow5
  have hHeld5 := hHeld
  clear HO4 hHeld
  obtain ⟨gp, cp, rfl, hcp, i5, lip, _, _⟩ := owns_parts RO.out PP.out (by omega)
  have B5 := Lib.hid (under B3.out hHeld5.1)
  have M5 := Lib.hid (M3.out.below hHeld5.1)
  have P5 := Lib.hid lip
  clear hHeld5 B3 M3 LI3 T3 RO lip
  go_wp2_with fail
  refine (G1.out _ _ (by rw [← PP.out]; exact reads_lie P5.out i5 (by rw [PP.out]; omega))).mono ?_
  rintro e w6 ⟨v6, rfl, hb6, ho6⟩
  have B6 := Lib.hid (under B5.out hb6)
  have M6 := Lib.hid (M5.out.below hb6)
  have P6 := Lib.hid (P5.out.below i5 hb6)
  have R6 := Lib.hid (reads_own (l := ms) ho6)
  have i6 : gp < w6.heap.size := Nat.lt_of_lt_of_le i5 hb6.size
  clear hb6 ho6 B5 M5 P5 i5
  have s1 : (0 : Int) ≤ (l.length : Int) + (k1 : Int) := by omega
  have s2 : (l.length : Int) + (k1 : Int) ≤ (cp : Int) := by omega
  have s4 : ¬ cp = l.length := by omega
  have s3 : ((l.length : Int) + (k1 : Int)).toNat = l.length + k1 := by omega
  go_wp2_with fail
  refine region_keeps (w0 := w6) (L := []) (by kernel_rfl) (⟨Below.refl _ _, trivial⟩) (fun hHeld0 => ?_)
  refine wpAnyH_take (i := 0) (oi := ⟨some 49, _, _, _, _, _⟩) (v := ?_) rfl (by kernel_rfl) (by kernel_rfl) (by kernel_rfl) (fun _ _ _ h => h) (Or.inl ⟨by rfl, ?_⟩) (by assumption) ?_
  rotate_left
  · intro wq hSw; go_simp; (try with_reducible rfl)
  try simp only [Act.put, List.setIfInBounds_toArray, List.set_cons_zero, List.set_cons_succ]
  refine wpAnyH_take (i := 1) (oi := ⟨some 50, _, _, _, _, _⟩) (v := ?_) rfl (by kernel_rfl) (by kernel_rfl) (by kernel_rfl) (fun _ _ _ h => h) (Or.inl ⟨by rfl, ?_⟩) (by assumption) ?_
  rotate_left
  · intro wq hSw; go_simp; (try with_reducible rfl)
  try simp only [Act.put, List.setIfInBounds_toArray, List.set_cons_zero, List.set_cons_succ]
  refine wpAnyH_take (i := 2) (oi := ⟨some 51, _, _, _, _, _⟩) (v := ?_) rfl (by kernel_rfl) (by kernel_rfl) (by kernel_rfl) (fun _ _ _ h => h) (Or.inl ⟨by rfl, ?_⟩) (by assumption) ?_
  rotate_left
  · intro wq hSw; go_simp; (try with_reducible rfl)
  try simp only [Act.put, List.setIfInBounds_toArray, List.set_cons_zero, List.set_cons_succ]
  refine wpAnyH_take (i := 3) (oi := ⟨some 52, _, _, _, _, _⟩) (v := ?_) rfl (by kernel_rfl) (by kernel_rfl) (by kernel_rfl) (fun _ _ _ h => h) (Or.inl ⟨by rfl, ?_⟩) (by assumption) ?_
  rotate_left
  · intro wq hSw; go_simp; (try with_reducible rfl)
  try simp only [Act.put, List.setIfInBounds_toArray, List.set_cons_zero, List.set_cons_succ]
  refine wpAnyH_take (i := 4) (oi := ⟨some 53, _, _, _, _, _⟩) (v := ?_) rfl (by kernel_rfl) (by kernel_rfl) (by kernel_rfl) (fun _ _ _ h => h) (Or.inl ⟨by rfl, ?_⟩) (by assumption) ?_
  rotate_left
  · intro wq hSw; go_simp; (try with_reducible rfl)
  try simp only [Act.put, List.setIfInBounds_toArray, List.set_cons_zero, List.set_cons_succ]
  refine wpAnyH_ready (rs := [5]) (by kernel_rfl) (by simp) ?_
  refine AllReadyH.cons (o := ⟨some 54, _, _, _, _, _⟩) rfl (fun K hK => ?_) AllReadyH.nil
  go_simp
  (first | ((with_reducible refine (EI.out _ _ _ (R6.out.below (Keeps.low (by assumption))) (M6.out.below (Keeps.low (by assumption)))).mono ?_); rintro e w7 ⟨rfl, hb⟩) | ((with_reducible refine (PN0.out _ _ (R6.out.below (Keeps.low (by assumption)))).mono ?_); rintro e w7 ⟨v7, rfl, hb, ho⟩; obtain ⟨g7, c7, rfl, hc7, hg7, li7, _, _⟩ := owns_parts ho HD1.out (by omega); have L7 := Lib.hid li7; clear ho li7) | ((with_reducible refine (SE.out g7 c7 gp l.length (cp - l.length) _ L7.out hg7 hc7 (LA.out _ _ (P6.out.below i6 (Keeps.low (by assumption)))) (Nat.lt_of_lt_of_le i6 (Keeps.low (by assumption)).size) (by omega)).mono ?_); rintro e w8 ⟨rfl, hb⟩))
  refine hK.out _ _ (hHeld0.next hb) (fun hHeld1 => ?_)
  clear hK K
  try clear hb
  try simp only [Act.put, List.setIfInBounds_toArray, List.set_cons_zero, List.set_cons_succ]
  refine wpAnyH_take (i := 6) (oi := ⟨some 55, _, _, _, _, _⟩) (v := ?_) rfl (by kernel_rfl) (by kernel_rfl) (by kernel_rfl) (fun _ _ _ h => h) (Or.inl ⟨by rfl, ?_⟩) (by assumption) ?_
  rotate_left
  · intro wq hSw; go_simp; (try with_reducible rfl)
  try simp only [Act.put, List.setIfInBounds_toArray, List.set_cons_zero, List.set_cons_succ]
  refine wpAnyH_take (i := 7) (oi := ⟨some 56, _, _, _, _, _⟩) (v := ?_) rfl (by kernel_rfl) (by kernel_rfl) (by kernel_rfl) (fun _ _ _ h => h) (Or.inl ⟨by rfl, ?_⟩) (by assumption) ?_
  rotate_left
  · intro wq hSw; go_simp; (try with_reducible rfl)
  try simp only [Act.put, List.setIfInBounds_toArray, List.set_cons_zero, List.set_cons_succ]
  refine wpAnyH_take (i := 8) (oi := ⟨some 57, _, _, _, _, _⟩) (v := ?_) rfl (by kernel_rfl) (by kernel_rfl) (by kernel_rfl) (fun _ _ _ h => h) (Or.inl ⟨by rfl, ?_⟩) (by assumption) ?_
  rotate_left
  · intro wq hSw; go_simp; (try with_reducible rfl)
  try simp only [Act.put, List.setIfInBounds_toArray, List.set_cons_zero, List.set_cons_succ]
  refine wpAnyH_take (i := 9) (oi := ⟨some 58, _, _, _, _, _⟩) (v := ?_) rfl (by kernel_rfl) (by kernel_rfl) (by kernel_rfl) (fun _ _ _ h => h) (Or.inl ⟨by rfl, ?_⟩) (by assumption) ?_
  rotate_left
  · intro wq hSw; go_simp; (try with_reducible rfl)
  try simp only [Act.put, List.setIfInBounds_toArray, List.set_cons_zero, List.set_cons_succ]
  refine wpAnyH_take (i := 11) (oi := ⟨some 60, _, _, _, _, _⟩) (v := ?_) rfl (by kernel_rfl) (by kernel_rfl) (by kernel_rfl) (fun _ _ _ h => h) (Or.inl ⟨by rfl, ?_⟩) (by assumption) ?_
  rotate_left
  · intro wq hSw; go_simp; (try with_reducible rfl)
  try simp only [Act.put, List.setIfInBounds_toArray, List.set_cons_zero, List.set_cons_succ]
  refine wpAnyH_take (i := 12) (oi := ⟨some 61, _, _, _, _, _⟩) (v := ?_) rfl (by kernel_rfl) (by kernel_rfl) (by kernel_rfl) (fun _ _ _ h => h) (Or.inl ⟨by rfl, ?_⟩) (by assumption) ?_
  rotate_left
  · intro wq hSw; go_simp; (try with_reducible rfl)
  try simp only [Act.put, List.setIfInBounds_toArray, List.set_cons_zero, List.set_cons_succ]
  refine wpAnyH_take (i := 13) (oi := ⟨some 62, _, _, _, _, _⟩) (v := ?_) rfl (by kernel_rfl) (by kernel_rfl) (by kernel_rfl) (fun _ _ _ h => h) (Or.inl ⟨by rfl, ?_⟩) (by assumption) ?_
  rotate_left
  · intro wq hSw; go_simp; (try with_reducible rfl)
  try simp only [Act.put, List.setIfInBounds_toArray, List.set_cons_zero, List.set_cons_succ]
  refine wpAnyH_take (i := 14) (oi := ⟨some 63, _, _, _, _, _⟩) (v := ?_) rfl (by kernel_rfl) (by kernel_rfl) (by kernel_rfl) (fun _ _ _ h => h) (Or.inl ⟨by rfl, ?_⟩) (by assumption) ?_
  rotate_left
  · intro wq hSw; go_simp; (try with_reducible rfl)
  try simp only [Act.put, List.setIfInBounds_toArray, List.set_cons_zero, List.set_cons_succ]
  refine wpAnyH_take (i := 15) (oi := ⟨some 64, _, _, _, _, _⟩) (v := ?_) rfl (by kernel_rfl) (by kernel_rfl) (by kernel_rfl) (fun _ _ _ h => h) (Or.inl ⟨by rfl, ?_⟩) (by assumption) ?_
  rotate_left
  · intro wq hSw; go_simp; (try with_reducible rfl)
  try simp only [Act.put, List.setIfInBounds_toArray, List.set_cons_zero, List.set_cons_succ]
  refine wpAnyH_ready (rs := [10]) (by kernel_rfl) (by simp) ?_
  refine AllReadyH.cons (o := ⟨some 59, _, _, _, _, _⟩) rfl (fun K hK => ?_) AllReadyH.nil
  go_simp
  (first | ((with_reducible refine (EI.out _ _ _ (R6.out.below (Keeps.low (by assumption))) (M6.out.below (Keeps.low (by assumption)))).mono ?_); rintro e w7 ⟨rfl, hb⟩) | ((with_reducible refine (PN0.out _ _ (R6.out.below (Keeps.low (by assumption)))).mono ?_); rintro e w7 ⟨v7, rfl, hb, ho⟩; obtain ⟨g7, c7, rfl, hc7, hg7, li7, _, _⟩ := owns_parts ho HD1.out (by omega); have L7 := Lib.hid li7; clear ho li7) | ((with_reducible refine (SE.out g7 c7 gp l.length (cp - l.length) _ L7.out hg7 hc7 (LA.out _ _ (P6.out.below i6 (Keeps.low (by assumption)))) (Nat.lt_of_lt_of_le i6 (Keeps.low (by assumption)).size) (by omega)).mono ?_); rintro e w8 ⟨rfl, hb⟩))
  refine hK.out _ _ (hHeld1.next hb) (fun hHeld2 => ?_)
  clear hK K
  try clear hb
  try simp only [Act.put, List.setIfInBounds_toArray, List.set_cons_zero, List.set_cons_succ]
  refine wpAnyH_ready (rs := [16]) (by kernel_rfl) (by simp) ?_
  refine AllReadyH.cons (o := ⟨some 65, _, _, _, _, _⟩) rfl (fun K hK => ?_) AllReadyH.nil
  go_simp
  (first | ((with_reducible refine (EI.out _ _ _ (R6.out.below (Keeps.low (by assumption))) (M6.out.below (Keeps.low (by assumption)))).mono ?_); rintro e w7 ⟨rfl, hb⟩) | ((with_reducible refine (PN0.out _ _ (R6.out.below (Keeps.low (by assumption)))).mono ?_); rintro e w7 ⟨v7, rfl, hb, ho⟩; obtain ⟨g7, c7, rfl, hc7, hg7, li7, _, _⟩ := owns_parts ho HD1.out (by omega); have L7 := Lib.hid li7; clear ho li7) | ((with_reducible refine (SE.out g7 c7 gp l.length (cp - l.length) _ L7.out hg7 hc7 (LA.out _ _ (P6.out.below i6 (Keeps.low (by assumption)))) (Nat.lt_of_lt_of_le i6 (Keeps.low (by assumption)).size) (by omega)).mono ?_); rintro e w8 ⟨rfl, hb⟩))
  refine hK.out _ _ (hHeld2.next hb) (fun hHeld3 => ?_)
  clear hK K
  try clear hb
  try simp only [Act.put, List.setIfInBounds_toArray, List.set_cons_zero, List.set_cons_succ]
  refine wpAnyH_take (i := 17) (oi := ⟨some 66, _, _, _, _, _⟩) (v := ?_) rfl (by kernel_rfl) (by kernel_rfl) (by kernel_rfl) (fun _ _ _ h => h) (Or.inl ⟨by rfl, ?_⟩) (by assumption) ?_
  rotate_left
  · intro wq hSw; go_simp; (try with_reducible rfl)
  try simp only [Act.put, List.setIfInBounds_toArray, List.set_cons_zero, List.set_cons_succ]
  refine wpAnyH_take (i := 18) (oi := ⟨some 67, _, _, _, _, _⟩) (v := ?_) rfl (by kernel_rfl) (by kernel_rfl) (by kernel_rfl) (fun _ _ _ h => h) (Or.inl ⟨by rfl, ?_⟩) (by assumption) ?_
  rotate_left
  · intro wq hSw; go_simp; (try with_reducible rfl)
  try simp only [Act.put, List.setIfInBounds_toArray, List.set_cons_zero, List.set_cons_succ]
  refine wpAnyH_done (by kernel_rfl) ?_ _
  have hHeld := hHeld3
  clear s1 s2 s3 s4
  have B8 := Lib.hid (under B6.out hHeld.1)
  have P8 := Lib.hid (P6.out.below i6 hHeld.1)
  have i8 : gp < w8.heap.size := Nat.lt_of_lt_of_le i6 hHeld.1.size
  clear hHeld B6 M6 P6 R6 i6 L7 hg7 hc7
  by_cases gx0 : 1 ≤ x.length
  · have ix0 : (0 : Int) < (x.length : Int) := by omega
    go_wp2_with fail
    refine (G2.out (by omega) _ _ (by rw [← PP.out]; exact reads_lie P8.out i8 (by rw [PP.out]; omega))).mono ?_
    rintro e w9 ⟨v9, rfl, hb9, _⟩
    have B9 := Lib.hid (under B8.out hb9)
    have P9 := Lib.hid (P8.out.below i8 hb9)
    have i9 : gp < w9.heap.size := Nat.lt_of_lt_of_le i8 hb9.size
    clear hb9 B8 P8 i8
    go_wp2_with fail
    go_loopw [16] (fun i wr => ∃ k : Nat, i = .int .i64 k ∧ l.length ≤ k ∧ k ≤ l.length + k1 ∧ Below w9.heap.size w9 wr) (fun i _ => l.length + k1 - (intOf i).toNat)
    case atStart => exact ⟨l.length, rfl, by omega, by omega, Below.refl _ _⟩
    case round =>
      obtain ⟨k, rfl, hk1, hk2, hBr⟩ := hrel
      by_cases gk : k < l.length + k1
      · have GK := Lib.hid (G3.out (k - l.length) (by omega) (.slice (some ⟨gp, 0, none⟩) k cp) wr (by
          have := reads_take (reads_lie (c := cp) (P9.out.below i9 hBr) (Nat.lt_of_lt_of_le i9 hBr.size) (by rw [PP.out]; omega)) k (by rw [PP.out]; omega)
          rwa [show l.length + (k - l.length) = k from by omega]))
        have ik : (k : Int) < (l.length : Int) + (k1 : Int) := by omega
        go_wp2_with fail
        refine GK.out.mono ?_
        rintro e w10 ⟨v10, rfl, hb10, _⟩
        have hB10 := under hBr hb10
        clear hb10 hBr GK
        go_wp2_with fail
        go_roundw
        case rel => exact ⟨k + 1, by simp, by omega, by omega, hB10⟩
        case measure => simp [intOf]; omega
      · have B10 := Lib.hid (under B9.out hBr)
        have ik : ¬ (k : Int) < (l.length : Int) + (k1 : Int) := by omega
        clear hBr
        go_wp2_with fail
        go_ret
        exact ⟨rfl, B10.out⟩
  · have ix0 : ¬ (0 : Int) < (x.length : Int) := by omega
    obtain ⟨w9, hw9⟩ : ∃ y, y = w8 := ⟨_, rfl⟩
    have B9 : Hid (Below w.heap.size w w9) := by rw [hw9]; exact B8
    have P9 : Hid (Lie w9 gp 0 (l ++ D ++ T)) := by rw [hw9]; exact P8
    have i9 : gp < w9.heap.size := by rw [hw9]; exact i8
    rw [← hw9]
    clear hw9 B8 P8 i8
    go_wp2_with fail
    go_loopw [16] (fun i wr => ∃ k : Nat, i = .int .i64 k ∧ l.length ≤ k ∧ k ≤ l.length + k1 ∧ Below w9.heap.size w9 wr) (fun i _ => l.length + k1 - (intOf i).toNat)
    case atStart => exact ⟨l.length, rfl, by omega, by omega, Below.refl _ _⟩
    case round =>
      obtain ⟨k, rfl, hk1, hk2, hBr⟩ := hrel
      by_cases gk : k < l.length + k1
      · have GK := Lib.hid (G3.out (k - l.length) (by omega) (.slice (some ⟨gp, 0, none⟩) k cp) wr (by
          have := reads_take (reads_lie (c := cp) (P9.out.below i9 hBr) (Nat.lt_of_lt_of_le i9 hBr.size) (by rw [PP.out]; omega)) k (by rw [PP.out]; omega)
          rwa [show l.length + (k - l.length) = k from by omega]))
        have ik : (k : Int) < (l.length : Int) + (k1 : Int) := by omega
        go_wp2_with fail
        refine GK.out.mono ?_
        rintro e w10 ⟨v10, rfl, hb10, _⟩
        have hB10 := under hBr hb10
        clear hb10 hBr GK
        go_wp2_with fail
        go_roundw
        case rel => exact ⟨k + 1, by simp, by omega, by omega, hB10⟩
        case measure => simp [intOf]; omega
      · have B10 := Lib.hid (under B9.out hBr)
        have ik : ¬ (k : Int) < (l.length : Int) + (k1 : Int) := by omega
        clear hBr
        go_wp2_with fail
        go_ret
        exact ⟨rfl, B10.out⟩

set_option maxRecDepth 100000 in
set_option maxHeartbeats 16000000 in
theorem list_bs (b : List Int) (hbl : b.length ≤ 9223372036854775807) (hbb : ∀ z ∈ b, 0 ≤ z ∧ z < 256) (x : List Int) (hx : 60 < x.length ∧ x.length ≤ 9223372036854775807) (hxr : ∀ z ∈ x, -9223372036854775808 ≤ z ∧ z ≤ 9223372036854775807) (t : List Int) (ht : t.length ≤ 30) (htb : ∀ z ∈ t, 0 ≤ z ∧ z < 256) (v v0 vt : Value) (w : World) (h : Reads .u8 w v b) (h0 : Reads .i64 w v0 x) (h2 : Reads .u8 w vt t) (hnil : ∀ n c, vt ≠ .slice none n c) :
    Calls Try.prog 9 #[v, v0, vt] w (Ret w (.bool true)) := by
  obtain ⟨i0, hi, hz0, hz1, hz2⟩ := info_parts infoU8
  have HH := Lib.hid (fun W (hb : Below w.heap.size w W) => head_any b hbl v W (h.below hb))
  have hl4 : (b.take 400).length ≤ 400 := by simp; omega
  have hlb : ∀ z ∈ b.take 400, 0 ≤ z ∧ z < 256 := fun z hz => hbb z (List.mem_of_mem_take hz)
  generalize b.take 400 = l at *
  obtain ⟨A0, c0, rfl, hc0, hk0⟩ := h0
  obtain ⟨At, ct, rfl, hct, hkt⟩ := h2
  obtain ⟨ad, rfl⟩ : ∃ ad, At = some ad := by
    cases At with
    | none => exact absurd rfl (hnil _ _)
    | some ad => exact ⟨ad, rfl⟩
  clear hnil
  have hm1 : (x.take 60).length ≤ 60 := by simp; omega
  have hml : (x.take 60).length = 60 := by simp; omega
  have hmr : ∀ z ∈ x.take 60, -9223372036854775808 ≤ z ∧ z ≤ 9223372036854775807 := fun z hz => hxr z (List.mem_of_mem_take hz)
  have RX : Hid (Reads .i64 w (.slice A0 60 c0) (x.take 60)) := Lib.hid (by
    have := reads_take (A := A0) (c := c0) ⟨A0, c0, rfl, hc0, hk0⟩ (x.take 60).length (by simp; omega)
    rw [hml] at this
    have e : x.take 60 = x.take 60 := by rfl
    rwa [e] at this)
  have ht1 : (t.take 30).length ≤ 30 := by simp; omega
  have htl : (t.take 30).length = t.length := by simp; omega
  have htr : ∀ z ∈ t.take 30, 0 ≤ z ∧ z < 256 := fun z hz => htb z (List.mem_of_mem_take hz)
  have RT : Hid (Reads .u8 w (.slice (some ad) t.length ct) (t.take 30)) := Lib.hid (by
    have := reads_take (A := some ad) (c := ct) ⟨some ad, ct, rfl, hct, hkt⟩ (t.take 30).length (by simp; omega)
    rw [htl] at this
    have e : t.take t.length = t.take 30 := by rw [List.take_of_length_le (Nat.le_refl _), List.take_of_length_le ht]
    rwa [e] at this)
  have CX := Lib.hid (fun W (hb : Below w.heap.size w W) => cloneI (x.take 60) (by omega) _ W (RX.out.below hb))
  have EI := Lib.hid (fun v1 v2 W (h1 : Reads .i64 W v1 (x.take 60)) (h2 : Reads .i64 W v2 (x.take 60)) => equalI (x.take 60) (x.take 60) (by omega) v1 v2 W h1 h2)
  rw [eqB_true rfl] at EI
  have PR0 := Lib.hid (fun v1 v2 W (h1 : Reads .u8 W v1 l) (h2 : Reads .i64 W v2 (x.take 60)) => putRow_any l (by omega) (x.take 60) (by omega) hmr v1 v2 W h1 h2)
  have PN0 := Lib.hid (fun v2 W (h2 : Reads .i64 W v2 (x.take 60)) => putRow_any [] (by simp) (x.take 60) (by omega) hmr _ v2 W (Reads.nil (k := .u8)) h2)
  rw [List.nil_append] at PN0
  have hD := rowBytes_len hm1 hmr
  have hDb := rowBytes_b (by omega) hmr
  have hPb : ∀ z ∈ l ++ rowBytes (x.take 60) ++ t.take 30, 0 ≤ z ∧ z < 256 := fun z hz' => by
    rcases List.mem_append.1 hz' with hz' | hz'
    · rcases List.mem_append.1 hz' with hz' | hz'
      · exact hlb z hz'
      · exact hDb z hz'
    · exact htr z hz'
  have hPl : (l ++ rowBytes (x.take 60) ++ t.take 30).length ≤ 2000 := by rw [List.length_append, List.length_append]; omega
  have G1 := Lib.hid (fun v W (hr : Reads .u8 W v (l ++ rowBytes (x.take 60) ++ t.take 30)) => getRow_any _ (by omega) hPb l.length (x.take 60).length (by omega) v W hr)
  rw [gotRow_put hm1 hmr] at G1
  have G2 : Hid (1 ≤ (x.take 60).length → ∀ v W, Reads .u8 W v (l ++ rowBytes (x.take 60) ++ t.take 30) → Calls Try.prog 29 #[v, .int .i64 l.length, .int .i64 (((x.take 60).length : Int) - 1)] W (MadeR W ([], 0, 3))) := Lib.hid (fun h1 v W hr => by
    have := getRow_any _ (by omega) hPb l.length (((x.take 60).length : Int) - 1) (by omega) v W hr
    rwa [gotRow_less hm1 h1] at this)
  have G3 : Hid (∀ j, j < (rowBytes (x.take 60)).length → ∀ v W, Reads .u8 W v ((l ++ rowBytes (x.take 60) ++ t.take 30).take (l.length + j)) → Calls Try.prog 29 #[v, .int .i64 l.length, .int .i64 (x.take 60).length] W (MadeR W ([], 0, 6))) := Lib.hid (fun j hj v W hr => by
    have := getRow_any ((l ++ rowBytes (x.take 60) ++ t.take 30).take (l.length + j)) (by rw [List.length_take]; omega) (fun z hz => hPb z (List.mem_of_mem_take hz)) l.length (x.take 60).length (by omega) v W hr
    rwa [gotRow_cut hm1 hmr hj] at this)
  have LA : Hid (∀ (W : World) (gp : Nat), Lie W gp 0 (l ++ rowBytes (x.take 60) ++ t.take 30) → Lie W gp l.length (rowBytes (x.take 60))) := Lib.hid (fun W gp hlie i z hz => by
    have := hlie (l.length + i) z (by rw [List.append_assoc, List.getElem?_append_right (by omega), Nat.add_sub_cancel_left, List.getElem?_append_left (List.getElem?_eq_some_iff.1 hz).1]; exact hz)
    rwa [Nat.zero_add] at this)
  generalize rowBytes (x.take 60) = D at *
  generalize t.take 30 = T at *
  obtain ⟨k1, hk1⟩ : ∃ k, D.length = k := ⟨_, rfl⟩
  rw [hk1] at hD G1 G3
  have HD1 := Lib.hid hk1
  rw [hml] at G1 G2 G3
  rw [show ((60 : Nat) : Int) = 60 from rfl] at G1 G2 G3
  rw [show (60 : Int) - 1 = 59 from rfl] at G2
  have PL : Hid ((l ++ D).length = l.length + k1) := Lib.hid (by simp [hk1])
  have PP : Hid ((l ++ D ++ T).length = l.length + k1 + t.length) := Lib.hid (by simp [hk1, htl, Nat.add_assoc])
  have HTL := Lib.hid htl
  have HML := Lib.hid hml
  have EQ1 := Lib.hid (fun v v2 W (h1 : Reads .u8 W v D) (h2 : Reads .u8 W v2 D) => equalB D D (by omega) v v2 W h1 h2)
  rw [eqB_true rfl] at EQ1
  have SE := Lib.hid (@same_row D k1 hk1 hD.2)
  generalize x.take 60 = ms at *
  have hms := HML.out
  clear h hbb hbl hlb hk1 hxr hk0 hmr hDb hkt htr htb hPb hPl hml htl hms
  go_enter Try.func9, Try.ntmps9
  go_wp2_with fail
  refine (wakes_any _).mono ?_
  rintro e w1 ⟨rfl, hb1⟩
  have B1 := Lib.hid hb1
  clear hb1
  go_wp2_with fail
  refine (CX.out _ B1.out).mono ?_
  rintro e w2 ⟨v2, rfl, hb2, ho2⟩
  obtain ⟨A2, c2, rfl⟩ := made_len ho2
  have B2 := Lib.hid (under B1.out hb2)
  have M2 := Lib.hid (reads_own ho2)
  rw [HML.out]
  rw [HML.out] at M2
  clear hb2 ho2 B1
  go_wp2_with fail
  refine (HH.out _ B2.out).mono ?_
  intro e w3 hhead
  obtain ⟨g, cap, rfl, hb3, hg, hcap, hlie, _⟩ := head_parts hhead
  have B3 := Lib.hid (under B2.out hb3)
  have LI3 := Lib.hid hlie.left
  have M3 := Lib.hid (M2.out.below hb3)
  have T3 := Lib.hid (RT.out.below B3.out)
  clear hb3 hhead hlie B2 M2
  go_wp2_with fail
  have f1 : ¬ (30 : Int) < (t.length : Int) := by omega
  have f2 : (t.length : Int) ≤ (ct : Int) := by omega
  refine region_keeps (w0 := w3) (L := []) (by kernel_rfl) (⟨Below.refl _ _, trivial⟩) (fun hHeld0 => ?_)
  refine wpAnyH_take (i := 0) (oi := ⟨some 30, _, _, _, _, _⟩) (v := ?_) rfl (by kernel_rfl) (by kernel_rfl) (by kernel_rfl) (fun _ _ _ h => h) (Or.inl ⟨by rfl, ?_⟩) (by assumption) ?_
  rotate_left
  · intro wq hSw; go_simp; (try with_reducible rfl)
  try simp only [Act.put, List.setIfInBounds_toArray, List.set_cons_zero, List.set_cons_succ]
  refine wpAnyH_take (i := 1) (oi := ⟨some 31, _, _, _, _, _⟩) (v := ?_) rfl (by kernel_rfl) (by kernel_rfl) (by kernel_rfl) (fun _ _ _ h => h) (Or.inl ⟨by rfl, ?_⟩) (by assumption) ?_
  rotate_left
  · intro wq hSw; go_simp; (try with_reducible rfl)
  try simp only [Act.put, List.setIfInBounds_toArray, List.set_cons_zero, List.set_cons_succ]
  refine wpAnyH_take (i := 3) (oi := ⟨some 33, _, _, _, _, _⟩) (v := ?_) rfl (by kernel_rfl) (by kernel_rfl) (by kernel_rfl) (fun _ _ _ h => h) (Or.inl ⟨by rfl, ?_⟩) (by assumption) ?_
  rotate_left
  · intro wq hSw; go_simp; (try with_reducible rfl)
  try simp only [Act.put, List.setIfInBounds_toArray, List.set_cons_zero, List.set_cons_succ]
  refine wpAnyH_take (i := 4) (oi := ⟨some 34, _, _, _, _, _⟩) (v := ?_) rfl (by kernel_rfl) (by kernel_rfl) (by kernel_rfl) (fun _ _ _ h => h) (Or.inl ⟨by rfl, ?_⟩) (by assumption) ?_
  rotate_left
  · intro wq hSw; go_simp; (try with_reducible rfl)
  try simp only [Act.put, List.setIfInBounds_toArray, List.set_cons_zero, List.set_cons_succ]
  refine wpAnyH_take (i := 5) (oi := ⟨some 35, _, _, _, _, _⟩) (v := ?_) rfl (by kernel_rfl) (by kernel_rfl) (by kernel_rfl) (fun _ _ _ h => h) (Or.inl ⟨by rfl, ?_⟩) (by assumption) ?_
  rotate_left
  · intro wq hSw; go_simp; (try with_reducible rfl)
  try simp only [Act.put, List.setIfInBounds_toArray, List.set_cons_zero, List.set_cons_succ]
  refine wpAnyH_take (i := 6) (oi := ⟨some 36, _, _, _, _, _⟩) (v := ?_) rfl (by kernel_rfl) (by kernel_rfl) (by kernel_rfl) (fun _ _ _ h => h) (Or.inl ⟨by rfl, ?_⟩) (by assumption) ?_
  rotate_left
  · intro wq hSw; go_simp; (try with_reducible rfl)
  try simp only [Act.put, List.setIfInBounds_toArray, List.set_cons_zero, List.set_cons_succ]
  refine wpAnyH_take (i := 7) (oi := ⟨some 37, _, _, _, _, _⟩) (v := ?_) rfl (by kernel_rfl) (by kernel_rfl) (by kernel_rfl) (fun _ _ _ h => h) (Or.inl ⟨by rfl, ?_⟩) (by assumption) ?_
  rotate_left
  · intro wq hSw; go_simp; (try with_reducible rfl)
  try simp only [Act.put, List.setIfInBounds_toArray, List.set_cons_zero, List.set_cons_succ]
  refine wpAnyH_ready (rs := [2]) (by kernel_rfl) (by simp) ?_
  refine AllReadyH.cons (o := ⟨some 32, _, _, _, _, _⟩) rfl (fun K hK => ?_) AllReadyH.nil
  go_simp
  (with_reducible refine (PR0.out _ _ _ (reads_lie (c := cap) (LI3.out.below hg (Keeps.low (by assumption))) (Nat.lt_of_lt_of_le hg (Keeps.low (by assumption)).size) (by omega)) (M3.out.below (Keeps.low (by assumption)))).mono ?_); rintro e w4 ⟨v4, rfl, hb, ho⟩; have HO4 : Hid (w4.ownsRow w3.heap.size 5 1 v4 (l ++ D).length ((l ++ D).map (Value.int .u8))) := Lib.hid ho; clear ho
  refine hK.out _ _ (hHeld0.next hb) (fun hHeld1 => ?_)
  clear hK K
  try clear hb
  try simp only [Act.put, List.setIfInBounds_toArray, List.set_cons_zero, List.set_cons_succ]
  refine wpAnyH_ready (rs := [8]) (by kernel_rfl) (by simp) ?_
  refine AllReadyH.cons (o := ⟨some 38, _, _, _, _, _⟩) rfl (fun K hK => ?_) AllReadyH.nil
  (refine if_wanted rfl ?_; refine wp_append_own _ (.tmp 32) (.tmp 37) 22 rfl w3.heap.size 5 i0 (.int .u8 0) 1 1 Try.underlying22 hi hz0 hz1 hz2 rfl (by decide) v4 _ _ rfl HO4.out ad t.length ct (T.map (Value.int .u8)) rfl (by simp [HTL.out]) (fun j u hj => reads_add (by rw [HTL.out]; exact T3.out.below (Keeps.low hHeld1)) hj) (fun u hu => by obtain ⟨x, _, rfl⟩ := List.mem_map.1 hu; rfl) (by rw [PL.out]; unfold maxLen; omega) (by rw [PL.out]; omega) (Keeps.low hHeld1).size (fun v5 w5 hown5 hgrow5 _ => ?_))
  refine hK.out _ _ (⟨(Keeps.low hHeld1).grown hgrow5 (Keeps.low hHeld1).size (fun j hj => (HO4.out.lt j hj).1), trivial⟩) (fun hHeld2 => ?_)
  clear hK K
  try clear hb
  try simp only [Act.put, List.setIfInBounds_toArray, List.set_cons_zero, List.set_cons_succ]
  refine wpAnyH_take (i := 9) (oi := ⟨some 9, _, _, _, _, _⟩) (v := ?_) rfl (by kernel_rfl) (by kernel_rfl) (by kernel_rfl) (fun _ _ _ h => h) (Or.inl ⟨by rfl, ?_⟩) (by assumption) ?_
  rotate_left
  · intro wq hSw; go_simp; (try with_reducible rfl)
  try simp only [Act.put, List.setIfInBounds_toArray, List.set_cons_zero, List.set_cons_succ]
  refine wpAnyH_done (by kernel_rfl) ?_ _
  have hHeld := hHeld2
  have RO : Hid (w5.ownsRow w3.heap.size 5 1 v5 (l ++ D ++ T).length ((l ++ D ++ T).map (Value.int .u8))) := Lib.hid (by rw [List.map_append, PP.out, ← PL.out]; exact hown5)
  clear hown5 hgrow5
  have hHeld5 := hHeld
  clear HO4 hHeld
  obtain ⟨gp, cp, rfl, hcp, i5, lip, _, _⟩ := owns_parts RO.out PP.out (by omega)
  have B5 := Lib.hid (under B3.out hHeld5.1)
  have M5 := Lib.hid (M3.out.below hHeld5.1)
  have P5 := Lib.hid lip
  clear hHeld5 B3 M3 LI3 T3 RO lip
  go_wp2_with fail
  refine (G1.out _ _ (by rw [← PP.out]; exact reads_lie P5.out i5 (by rw [PP.out]; omega))).mono ?_
  rintro e w6 ⟨v6, rfl, hb6, ho6⟩
  have B6 := Lib.hid (under B5.out hb6)
  have M6 := Lib.hid (M5.out.below hb6)
  have P6 := Lib.hid (P5.out.below i5 hb6)
  have R6 := Lib.hid (reads_own (l := ms) ho6)
  have i6 : gp < w6.heap.size := Nat.lt_of_lt_of_le i5 hb6.size
  clear hb6 ho6 B5 M5 P5 i5
  have s1 : (0 : Int) ≤ (l.length : Int) + (k1 : Int) := by omega
  have s2 : (l.length : Int) + (k1 : Int) ≤ (cp : Int) := by omega
  have s4 : ¬ cp = l.length := by omega
  have s3 : ((l.length : Int) + (k1 : Int)).toNat = l.length + k1 := by omega
  go_wp2_with fail
  refine region_keeps (w0 := w6) (L := []) (by kernel_rfl) (⟨Below.refl _ _, trivial⟩) (fun hHeld0 => ?_)
  refine wpAnyH_take (i := 0) (oi := ⟨some 49, _, _, _, _, _⟩) (v := ?_) rfl (by kernel_rfl) (by kernel_rfl) (by kernel_rfl) (fun _ _ _ h => h) (Or.inl ⟨by rfl, ?_⟩) (by assumption) ?_
  rotate_left
  · intro wq hSw; go_simp; (try with_reducible rfl)
  try simp only [Act.put, List.setIfInBounds_toArray, List.set_cons_zero, List.set_cons_succ]
  refine wpAnyH_take (i := 1) (oi := ⟨some 50, _, _, _, _, _⟩) (v := ?_) rfl (by kernel_rfl) (by kernel_rfl) (by kernel_rfl) (fun _ _ _ h => h) (Or.inl ⟨by rfl, ?_⟩) (by assumption) ?_
  rotate_left
  · intro wq hSw; go_simp; (try with_reducible rfl)
  try simp only [Act.put, List.setIfInBounds_toArray, List.set_cons_zero, List.set_cons_succ]
  refine wpAnyH_take (i := 2) (oi := ⟨some 51, _, _, _, _, _⟩) (v := ?_) rfl (by kernel_rfl) (by kernel_rfl) (by kernel_rfl) (fun _ _ _ h => h) (Or.inl ⟨by rfl, ?_⟩) (by assumption) ?_
  rotate_left
  · intro wq hSw; go_simp; (try with_reducible rfl)
  try simp only [Act.put, List.setIfInBounds_toArray, List.set_cons_zero, List.set_cons_succ]
  refine wpAnyH_take (i := 3) (oi := ⟨some 52, _, _, _, _, _⟩) (v := ?_) rfl (by kernel_rfl) (by kernel_rfl) (by kernel_rfl) (fun _ _ _ h => h) (Or.inl ⟨by rfl, ?_⟩) (by assumption) ?_
  rotate_left
  · intro wq hSw; go_simp; (try with_reducible rfl)
  try simp only [Act.put, List.setIfInBounds_toArray, List.set_cons_zero, List.set_cons_succ]
  refine wpAnyH_take (i := 4) (oi := ⟨some 53, _, _, _, _, _⟩) (v := ?_) rfl (by kernel_rfl) (by kernel_rfl) (by kernel_rfl) (fun _ _ _ h => h) (Or.inl ⟨by rfl, ?_⟩) (by assumption) ?_
  rotate_left
  · intro wq hSw; go_simp; (try with_reducible rfl)
  try simp only [Act.put, List.setIfInBounds_toArray, List.set_cons_zero, List.set_cons_succ]
  refine wpAnyH_ready (rs := [5]) (by kernel_rfl) (by simp) ?_
  refine AllReadyH.cons (o := ⟨some 54, _, _, _, _, _⟩) rfl (fun K hK => ?_) AllReadyH.nil
  go_simp
  (first | ((with_reducible refine (EI.out _ _ _ (R6.out.below (Keeps.low (by assumption))) (M6.out.below (Keeps.low (by assumption)))).mono ?_); rintro e w7 ⟨rfl, hb⟩) | ((with_reducible refine (PN0.out _ _ (R6.out.below (Keeps.low (by assumption)))).mono ?_); rintro e w7 ⟨v7, rfl, hb, ho⟩; obtain ⟨g7, c7, rfl, hc7, hg7, li7, _, _⟩ := owns_parts ho HD1.out (by omega); have L7 := Lib.hid li7; clear ho li7) | ((with_reducible refine (SE.out g7 c7 gp l.length (cp - l.length) _ L7.out hg7 hc7 (LA.out _ _ (P6.out.below i6 (Keeps.low (by assumption)))) (Nat.lt_of_lt_of_le i6 (Keeps.low (by assumption)).size) (by omega)).mono ?_); rintro e w8 ⟨rfl, hb⟩))
  refine hK.out _ _ (hHeld0.next hb) (fun hHeld1 => ?_)
  clear hK K
  try clear hb
  try simp only [Act.put, List.setIfInBounds_toArray, List.set_cons_zero, List.set_cons_succ]
  refine wpAnyH_take (i := 6) (oi := ⟨some 55, _, _, _, _, _⟩) (v := ?_) rfl (by kernel_rfl) (by kernel_rfl) (by kernel_rfl) (fun _ _ _ h => h) (Or.inl ⟨by rfl, ?_⟩) (by assumption) ?_
  rotate_left
  · intro wq hSw; go_simp; (try with_reducible rfl)
  try simp only [Act.put, List.setIfInBounds_toArray, List.set_cons_zero, List.set_cons_succ]
  refine wpAnyH_take (i := 7) (oi := ⟨some 56, _, _, _, _, _⟩) (v := ?_) rfl (by kernel_rfl) (by kernel_rfl) (by kernel_rfl) (fun _ _ _ h => h) (Or.inl ⟨by rfl, ?_⟩) (by assumption) ?_
  rotate_left
  · intro wq hSw; go_simp; (try with_reducible rfl)
  try simp only [Act.put, List.setIfInBounds_toArray, List.set_cons_zero, List.set_cons_succ]
  refine wpAnyH_take (i := 8) (oi := ⟨some 57, _, _, _, _, _⟩) (v := ?_) rfl (by kernel_rfl) (by kernel_rfl) (by kernel_rfl) (fun _ _ _ h => h) (Or.inl ⟨by rfl, ?_⟩) (by assumption) ?_
  rotate_left
  · intro wq hSw; go_simp; (try with_reducible rfl)
  try simp only [Act.put, List.setIfInBounds_toArray, List.set_cons_zero, List.set_cons_succ]
  refine wpAnyH_take (i := 9) (oi := ⟨some 58, _, _, _, _, _⟩) (v := ?_) rfl (by kernel_rfl) (by kernel_rfl) (by kernel_rfl) (fun _ _ _ h => h) (Or.inl ⟨by rfl, ?_⟩) (by assumption) ?_
  rotate_left
  · intro wq hSw; go_simp; (try with_reducible rfl)
  try simp only [Act.put, List.setIfInBounds_toArray, List.set_cons_zero, List.set_cons_succ]
  refine wpAnyH_take (i := 11) (oi := ⟨some 60, _, _, _, _, _⟩) (v := ?_) rfl (by kernel_rfl) (by kernel_rfl) (by kernel_rfl) (fun _ _ _ h => h) (Or.inl ⟨by rfl, ?_⟩) (by assumption) ?_
  rotate_left
  · intro wq hSw; go_simp; (try with_reducible rfl)
  try simp only [Act.put, List.setIfInBounds_toArray, List.set_cons_zero, List.set_cons_succ]
  refine wpAnyH_take (i := 12) (oi := ⟨some 61, _, _, _, _, _⟩) (v := ?_) rfl (by kernel_rfl) (by kernel_rfl) (by kernel_rfl) (fun _ _ _ h => h) (Or.inl ⟨by rfl, ?_⟩) (by assumption) ?_
  rotate_left
  · intro wq hSw; go_simp; (try with_reducible rfl)
  try simp only [Act.put, List.setIfInBounds_toArray, List.set_cons_zero, List.set_cons_succ]
  refine wpAnyH_take (i := 13) (oi := ⟨some 62, _, _, _, _, _⟩) (v := ?_) rfl (by kernel_rfl) (by kernel_rfl) (by kernel_rfl) (fun _ _ _ h => h) (Or.inl ⟨by rfl, ?_⟩) (by assumption) ?_
  rotate_left
  · intro wq hSw; go_simp; (try with_reducible rfl)
  try simp only [Act.put, List.setIfInBounds_toArray, List.set_cons_zero, List.set_cons_succ]
  refine wpAnyH_take (i := 14) (oi := ⟨some 63, _, _, _, _, _⟩) (v := ?_) rfl (by kernel_rfl) (by kernel_rfl) (by kernel_rfl) (fun _ _ _ h => h) (Or.inl ⟨by rfl, ?_⟩) (by assumption) ?_
  rotate_left
  · intro wq hSw; go_simp; (try with_reducible rfl)
  try simp only [Act.put, List.setIfInBounds_toArray, List.set_cons_zero, List.set_cons_succ]
  refine wpAnyH_take (i := 15) (oi := ⟨some 64, _, _, _, _, _⟩) (v := ?_) rfl (by kernel_rfl) (by kernel_rfl) (by kernel_rfl) (fun _ _ _ h => h) (Or.inl ⟨by rfl, ?_⟩) (by assumption) ?_
  rotate_left
  · intro wq hSw; go_simp; (try with_reducible rfl)
  try simp only [Act.put, List.setIfInBounds_toArray, List.set_cons_zero, List.set_cons_succ]
  refine wpAnyH_ready (rs := [10]) (by kernel_rfl) (by simp) ?_
  refine AllReadyH.cons (o := ⟨some 59, _, _, _, _, _⟩) rfl (fun K hK => ?_) AllReadyH.nil
  go_simp
  (first | ((with_reducible refine (EI.out _ _ _ (R6.out.below (Keeps.low (by assumption))) (M6.out.below (Keeps.low (by assumption)))).mono ?_); rintro e w7 ⟨rfl, hb⟩) | ((with_reducible refine (PN0.out _ _ (R6.out.below (Keeps.low (by assumption)))).mono ?_); rintro e w7 ⟨v7, rfl, hb, ho⟩; obtain ⟨g7, c7, rfl, hc7, hg7, li7, _, _⟩ := owns_parts ho HD1.out (by omega); have L7 := Lib.hid li7; clear ho li7) | ((with_reducible refine (SE.out g7 c7 gp l.length (cp - l.length) _ L7.out hg7 hc7 (LA.out _ _ (P6.out.below i6 (Keeps.low (by assumption)))) (Nat.lt_of_lt_of_le i6 (Keeps.low (by assumption)).size) (by omega)).mono ?_); rintro e w8 ⟨rfl, hb⟩))
  refine hK.out _ _ (hHeld1.next hb) (fun hHeld2 => ?_)
  clear hK K
  try clear hb
  try simp only [Act.put, List.setIfInBounds_toArray, List.set_cons_zero, List.set_cons_succ]
  refine wpAnyH_ready (rs := [16]) (by kernel_rfl) (by simp) ?_
  refine AllReadyH.cons (o := ⟨some 65, _, _, _, _, _⟩) rfl (fun K hK => ?_) AllReadyH.nil
  go_simp
  (first | ((with_reducible refine (EI.out _ _ _ (R6.out.below (Keeps.low (by assumption))) (M6.out.below (Keeps.low (by assumption)))).mono ?_); rintro e w7 ⟨rfl, hb⟩) | ((with_reducible refine (PN0.out _ _ (R6.out.below (Keeps.low (by assumption)))).mono ?_); rintro e w7 ⟨v7, rfl, hb, ho⟩; obtain ⟨g7, c7, rfl, hc7, hg7, li7, _, _⟩ := owns_parts ho HD1.out (by omega); have L7 := Lib.hid li7; clear ho li7) | ((with_reducible refine (SE.out g7 c7 gp l.length (cp - l.length) _ L7.out hg7 hc7 (LA.out _ _ (P6.out.below i6 (Keeps.low (by assumption)))) (Nat.lt_of_lt_of_le i6 (Keeps.low (by assumption)).size) (by omega)).mono ?_); rintro e w8 ⟨rfl, hb⟩))
  refine hK.out _ _ (hHeld2.next hb) (fun hHeld3 => ?_)
  clear hK K
  try clear hb
  try simp only [Act.put, List.setIfInBounds_toArray, List.set_cons_zero, List.set_cons_succ]
  refine wpAnyH_take (i := 17) (oi := ⟨some 66, _, _, _, _, _⟩) (v := ?_) rfl (by kernel_rfl) (by kernel_rfl) (by kernel_rfl) (fun _ _ _ h => h) (Or.inl ⟨by rfl, ?_⟩) (by assumption) ?_
  rotate_left
  · intro wq hSw; go_simp; (try with_reducible rfl)
  try simp only [Act.put, List.setIfInBounds_toArray, List.set_cons_zero, List.set_cons_succ]
  refine wpAnyH_take (i := 18) (oi := ⟨some 67, _, _, _, _, _⟩) (v := ?_) rfl (by kernel_rfl) (by kernel_rfl) (by kernel_rfl) (fun _ _ _ h => h) (Or.inl ⟨by rfl, ?_⟩) (by assumption) ?_
  rotate_left
  · intro wq hSw; go_simp; (try with_reducible rfl)
  try simp only [Act.put, List.setIfInBounds_toArray, List.set_cons_zero, List.set_cons_succ]
  refine wpAnyH_done (by kernel_rfl) ?_ _
  have hHeld := hHeld3
  clear s1 s2 s3 s4
  have B8 := Lib.hid (under B6.out hHeld.1)
  have P8 := Lib.hid (P6.out.below i6 hHeld.1)
  have i8 : gp < w8.heap.size := Nat.lt_of_lt_of_le i6 hHeld.1.size
  clear hHeld B6 M6 P6 R6 i6 L7 hg7 hc7
  go_wp2_with fail
  refine (G2.out (by omega) _ _ (by rw [← PP.out]; exact reads_lie P8.out i8 (by rw [PP.out]; omega))).mono ?_
  rintro e w9 ⟨v9, rfl, hb9, _⟩
  have B9 := Lib.hid (under B8.out hb9)
  have P9 := Lib.hid (P8.out.below i8 hb9)
  have i9 : gp < w9.heap.size := Nat.lt_of_lt_of_le i8 hb9.size
  clear hb9 B8 P8 i8
  go_wp2_with fail
  go_loopw [16] (fun i wr => ∃ k : Nat, i = .int .i64 k ∧ l.length ≤ k ∧ k ≤ l.length + k1 ∧ Below w9.heap.size w9 wr) (fun i _ => l.length + k1 - (intOf i).toNat)
  case atStart => exact ⟨l.length, rfl, by omega, by omega, Below.refl _ _⟩
  case round =>
    obtain ⟨k, rfl, hk1, hk2, hBr⟩ := hrel
    by_cases gk : k < l.length + k1
    · have GK := Lib.hid (G3.out (k - l.length) (by omega) (.slice (some ⟨gp, 0, none⟩) k cp) wr (by
        have := reads_take (reads_lie (c := cp) (P9.out.below i9 hBr) (Nat.lt_of_lt_of_le i9 hBr.size) (by rw [PP.out]; omega)) k (by rw [PP.out]; omega)
        rwa [show l.length + (k - l.length) = k from by omega]))
      have ik : (k : Int) < (l.length : Int) + (k1 : Int) := by omega
      go_wp2_with fail
      refine GK.out.mono ?_
      rintro e w10 ⟨v10, rfl, hb10, _⟩
      have hB10 := under hBr hb10
      clear hb10 hBr GK
      go_wp2_with fail
      go_roundw
      case rel => exact ⟨k + 1, by simp, by omega, by omega, hB10⟩
      case measure => simp [intOf]; omega
    · have B10 := Lib.hid (under B9.out hBr)
      have ik : ¬ (k : Int) < (l.length : Int) + (k1 : Int) := by omega
      clear hBr
      go_wp2_with fail
      go_ret
      exact ⟨rfl, B10.out⟩

set_option maxRecDepth 100000 in
set_option maxHeartbeats 16000000 in
theorem list_bb (b : List Int) (hbl : b.length ≤ 9223372036854775807) (hbb : ∀ z ∈ b, 0 ≤ z ∧ z < 256) (x : List Int) (hx : 60 < x.length ∧ x.length ≤ 9223372036854775807) (hxr : ∀ z ∈ x, -9223372036854775808 ≤ z ∧ z ≤ 9223372036854775807) (t : List Int) (ht : 30 < t.length ∧ t.length ≤ 9223372036854775807) (htb : ∀ z ∈ t, 0 ≤ z ∧ z < 256) (v v0 vt : Value) (w : World) (h : Reads .u8 w v b) (h0 : Reads .i64 w v0 x) (h2 : Reads .u8 w vt t) (hnil : ∀ n c, vt ≠ .slice none n c) :
    Calls Try.prog 9 #[v, v0, vt] w (Ret w (.bool true)) := by
  obtain ⟨i0, hi, hz0, hz1, hz2⟩ := info_parts infoU8
  have HH := Lib.hid (fun W (hb : Below w.heap.size w W) => head_any b hbl v W (h.below hb))
  have hl4 : (b.take 400).length ≤ 400 := by simp; omega
  have hlb : ∀ z ∈ b.take 400, 0 ≤ z ∧ z < 256 := fun z hz => hbb z (List.mem_of_mem_take hz)
  generalize b.take 400 = l at *
  obtain ⟨A0, c0, rfl, hc0, hk0⟩ := h0
  obtain ⟨At, ct, rfl, hct, hkt⟩ := h2
  obtain ⟨ad, rfl⟩ : ∃ ad, At = some ad := by
    cases At with
    | none => exact absurd rfl (hnil _ _)
    | some ad => exact ⟨ad, rfl⟩
  clear hnil
  have hm1 : (x.take 60).length ≤ 60 := by simp; omega
  have hml : (x.take 60).length = 60 := by simp; omega
  have hmr : ∀ z ∈ x.take 60, -9223372036854775808 ≤ z ∧ z ≤ 9223372036854775807 := fun z hz => hxr z (List.mem_of_mem_take hz)
  have RX : Hid (Reads .i64 w (.slice A0 60 c0) (x.take 60)) := Lib.hid (by
    have := reads_take (A := A0) (c := c0) ⟨A0, c0, rfl, hc0, hk0⟩ (x.take 60).length (by simp; omega)
    rw [hml] at this
    have e : x.take 60 = x.take 60 := by rfl
    rwa [e] at this)
  have ht1 : (t.take 30).length ≤ 30 := by simp; omega
  have htl : (t.take 30).length = 30 := by simp; omega
  have htr : ∀ z ∈ t.take 30, 0 ≤ z ∧ z < 256 := fun z hz => htb z (List.mem_of_mem_take hz)
  have RT : Hid (Reads .u8 w (.slice (some ad) 30 ct) (t.take 30)) := Lib.hid (by
    have := reads_take (A := some ad) (c := ct) ⟨some ad, ct, rfl, hct, hkt⟩ (t.take 30).length (by simp; omega)
    rw [htl] at this
    have e : t.take 30 = t.take 30 := by rfl
    rwa [e] at this)
  have CX := Lib.hid (fun W (hb : Below w.heap.size w W) => cloneI (x.take 60) (by omega) _ W (RX.out.below hb))
  have EI := Lib.hid (fun v1 v2 W (h1 : Reads .i64 W v1 (x.take 60)) (h2 : Reads .i64 W v2 (x.take 60)) => equalI (x.take 60) (x.take 60) (by omega) v1 v2 W h1 h2)
  rw [eqB_true rfl] at EI
  have PR0 := Lib.hid (fun v1 v2 W (h1 : Reads .u8 W v1 l) (h2 : Reads .i64 W v2 (x.take 60)) => putRow_any l (by omega) (x.take 60) (by omega) hmr v1 v2 W h1 h2)
  have PN0 := Lib.hid (fun v2 W (h2 : Reads .i64 W v2 (x.take 60)) => putRow_any [] (by simp) (x.take 60) (by omega) hmr _ v2 W (Reads.nil (k := .u8)) h2)
  rw [List.nil_append] at PN0
  have hD := rowBytes_len hm1 hmr
  have hDb := rowBytes_b (by omega) hmr
  have hPb : ∀ z ∈ l ++ rowBytes (x.take 60) ++ t.take 30, 0 ≤ z ∧ z < 256 := fun z hz' => by
    rcases List.mem_append.1 hz' with hz' | hz'
    · rcases List.mem_append.1 hz' with hz' | hz'
      · exact hlb z hz'
      · exact hDb z hz'
    · exact htr z hz'
  have hPl : (l ++ rowBytes (x.take 60) ++ t.take 30).length ≤ 2000 := by rw [List.length_append, List.length_append]; omega
  have G1 := Lib.hid (fun v W (hr : Reads .u8 W v (l ++ rowBytes (x.take 60) ++ t.take 30)) => getRow_any _ (by omega) hPb l.length (x.take 60).length (by omega) v W hr)
  rw [gotRow_put hm1 hmr] at G1
  have G2 : Hid (1 ≤ (x.take 60).length → ∀ v W, Reads .u8 W v (l ++ rowBytes (x.take 60) ++ t.take 30) → Calls Try.prog 29 #[v, .int .i64 l.length, .int .i64 (((x.take 60).length : Int) - 1)] W (MadeR W ([], 0, 3))) := Lib.hid (fun h1 v W hr => by
    have := getRow_any _ (by omega) hPb l.length (((x.take 60).length : Int) - 1) (by omega) v W hr
    rwa [gotRow_less hm1 h1] at this)
  have G3 : Hid (∀ j, j < (rowBytes (x.take 60)).length → ∀ v W, Reads .u8 W v ((l ++ rowBytes (x.take 60) ++ t.take 30).take (l.length + j)) → Calls Try.prog 29 #[v, .int .i64 l.length, .int .i64 (x.take 60).length] W (MadeR W ([], 0, 6))) := Lib.hid (fun j hj v W hr => by
    have := getRow_any ((l ++ rowBytes (x.take 60) ++ t.take 30).take (l.length + j)) (by rw [List.length_take]; omega) (fun z hz => hPb z (List.mem_of_mem_take hz)) l.length (x.take 60).length (by omega) v W hr
    rwa [gotRow_cut hm1 hmr hj] at this)
  have LA : Hid (∀ (W : World) (gp : Nat), Lie W gp 0 (l ++ rowBytes (x.take 60) ++ t.take 30) → Lie W gp l.length (rowBytes (x.take 60))) := Lib.hid (fun W gp hlie i z hz => by
    have := hlie (l.length + i) z (by rw [List.append_assoc, List.getElem?_append_right (by omega), Nat.add_sub_cancel_left, List.getElem?_append_left (List.getElem?_eq_some_iff.1 hz).1]; exact hz)
    rwa [Nat.zero_add] at this)
  generalize rowBytes (x.take 60) = D at *
  generalize t.take 30 = T at *
  obtain ⟨k1, hk1⟩ : ∃ k, D.length = k := ⟨_, rfl⟩
  rw [hk1] at hD G1 G3
  have HD1 := Lib.hid hk1
  rw [hml] at G1 G2 G3
  rw [show ((60 : Nat) : Int) = 60 from rfl] at G1 G2 G3
  rw [show (60 : Int) - 1 = 59 from rfl] at G2
  have PL : Hid ((l ++ D).length = l.length + k1) := Lib.hid (by simp [hk1])
  have PP : Hid ((l ++ D ++ T).length = l.length + k1 + 30) := Lib.hid (by simp [hk1, htl, Nat.add_assoc])
  have HTL := Lib.hid htl
  have HML := Lib.hid hml
  have EQ1 := Lib.hid (fun v v2 W (h1 : Reads .u8 W v D) (h2 : Reads .u8 W v2 D) => equalB D D (by omega) v v2 W h1 h2)
  rw [eqB_true rfl] at EQ1
  have SE := Lib.hid (@same_row D k1 hk1 hD.2)
  generalize x.take 60 = ms at *
  have hms := HML.out
  clear h hbb hbl hlb hk1 hxr hk0 hmr hDb hkt htr htb hPb hPl hml htl hms
  go_enter Try.func9, Try.ntmps9
  go_wp2_with fail
  refine (wakes_any _).mono ?_
  rintro e w1 ⟨rfl, hb1⟩
  have B1 := Lib.hid hb1
  clear hb1
  go_wp2_with fail
  refine (CX.out _ B1.out).mono ?_
  rintro e w2 ⟨v2, rfl, hb2, ho2⟩
  obtain ⟨A2, c2, rfl⟩ := made_len ho2
  have B2 := Lib.hid (under B1.out hb2)
  have M2 := Lib.hid (reads_own ho2)
  rw [HML.out]
  rw [HML.out] at M2
  clear hb2 ho2 B1
  go_wp2_with fail
  refine (HH.out _ B2.out).mono ?_
  intro e w3 hhead
  obtain ⟨g, cap, rfl, hb3, hg, hcap, hlie, _⟩ := head_parts hhead
  have B3 := Lib.hid (under B2.out hb3)
  have LI3 := Lib.hid hlie.left
  have M3 := Lib.hid (M2.out.below hb3)
  have T3 := Lib.hid (RT.out.below B3.out)
  clear hb3 hhead hlie B2 M2
  go_wp2_with fail
  have f1 : (30 : Int) < (t.length : Int) := by omega
  have f2 : (30 : Int) ≤ (ct : Int) := by omega
  refine region_keeps (w0 := w3) (L := []) (by kernel_rfl) (⟨Below.refl _ _, trivial⟩) (fun hHeld0 => ?_)
  refine wpAnyH_take (i := 0) (oi := ⟨some 30, _, _, _, _, _⟩) (v := ?_) rfl (by kernel_rfl) (by kernel_rfl) (by kernel_rfl) (fun _ _ _ h => h) (Or.inl ⟨by rfl, ?_⟩) (by assumption) ?_
  rotate_left
  · intro wq hSw; go_simp; (try with_reducible rfl)
  try simp only [Act.put, List.setIfInBounds_toArray, List.set_cons_zero, List.set_cons_succ]
  refine wpAnyH_take (i := 1) (oi := ⟨some 31, _, _, _, _, _⟩) (v := ?_) rfl (by kernel_rfl) (by kernel_rfl) (by kernel_rfl) (fun _ _ _ h => h) (Or.inl ⟨by rfl, ?_⟩) (by assumption) ?_
  rotate_left
  · intro wq hSw; go_simp; (try with_reducible rfl)
  try simp only [Act.put, List.setIfInBounds_toArray, List.set_cons_zero, List.set_cons_succ]
  refine wpAnyH_take (i := 3) (oi := ⟨some 33, _, _, _, _, _⟩) (v := ?_) rfl (by kernel_rfl) (by kernel_rfl) (by kernel_rfl) (fun _ _ _ h => h) (Or.inl ⟨by rfl, ?_⟩) (by assumption) ?_
  rotate_left
  · intro wq hSw; go_simp; (try with_reducible rfl)
  try simp only [Act.put, List.setIfInBounds_toArray, List.set_cons_zero, List.set_cons_succ]
  refine wpAnyH_take (i := 4) (oi := ⟨some 34, _, _, _, _, _⟩) (v := ?_) rfl (by kernel_rfl) (by kernel_rfl) (by kernel_rfl) (fun _ _ _ h => h) (Or.inl ⟨by rfl, ?_⟩) (by assumption) ?_
  rotate_left
  · intro wq hSw; go_simp; (try with_reducible rfl)
  try simp only [Act.put, List.setIfInBounds_toArray, List.set_cons_zero, List.set_cons_succ]
  refine wpAnyH_take (i := 5) (oi := ⟨some 35, _, _, _, _, _⟩) (v := ?_) rfl (by kernel_rfl) (by kernel_rfl) (by kernel_rfl) (fun _ _ _ h => h) (Or.inl ⟨by rfl, ?_⟩) (by assumption) ?_
  rotate_left
  · intro wq hSw; go_simp; (try with_reducible rfl)
  try simp only [Act.put, List.setIfInBounds_toArray, List.set_cons_zero, List.set_cons_succ]
  refine wpAnyH_take (i := 6) (oi := ⟨some 36, _, _, _, _, _⟩) (v := ?_) rfl (by kernel_rfl) (by kernel_rfl) (by kernel_rfl) (fun _ _ _ h => h) (Or.inl ⟨by rfl, ?_⟩) (by assumption) ?_
  rotate_left
  · intro wq hSw; go_simp; (try with_reducible rfl)
  try simp only [Act.put, List.setIfInBounds_toArray, List.set_cons_zero, List.set_cons_succ]
  refine wpAnyH_take (i := 7) (oi := ⟨some 37, _, _, _, _, _⟩) (v := ?_) rfl (by kernel_rfl) (by kernel_rfl) (by kernel_rfl) (fun _ _ _ h => h) (Or.inl ⟨by rfl, ?_⟩) (by assumption) ?_
  rotate_left
  · intro wq hSw; go_simp; (try with_reducible rfl)
  try simp only [Act.put, List.setIfInBounds_toArray, List.set_cons_zero, List.set_cons_succ]
  refine wpAnyH_ready (rs := [2]) (by kernel_rfl) (by simp) ?_
  refine AllReadyH.cons (o := ⟨some 32, _, _, _, _, _⟩) rfl (fun K hK => ?_) AllReadyH.nil
  go_simp
  (with_reducible refine (PR0.out _ _ _ (reads_lie (c := cap) (LI3.out.below hg (Keeps.low (by assumption))) (Nat.lt_of_lt_of_le hg (Keeps.low (by assumption)).size) (by omega)) (M3.out.below (Keeps.low (by assumption)))).mono ?_); rintro e w4 ⟨v4, rfl, hb, ho⟩; have HO4 : Hid (w4.ownsRow w3.heap.size 5 1 v4 (l ++ D).length ((l ++ D).map (Value.int .u8))) := Lib.hid ho; clear ho
  refine hK.out _ _ (hHeld0.next hb) (fun hHeld1 => ?_)
  clear hK K
  try clear hb
  try simp only [Act.put, List.setIfInBounds_toArray, List.set_cons_zero, List.set_cons_succ]
  refine wpAnyH_ready (rs := [8]) (by kernel_rfl) (by simp) ?_
  refine AllReadyH.cons (o := ⟨some 38, _, _, _, _, _⟩) rfl (fun K hK => ?_) AllReadyH.nil
  (refine if_wanted rfl ?_; refine wp_append_own _ (.tmp 32) (.tmp 37) 22 rfl w3.heap.size 5 i0 (.int .u8 0) 1 1 Try.underlying22 hi hz0 hz1 hz2 rfl (by decide) v4 _ _ rfl HO4.out ad 30 ct (T.map (Value.int .u8)) rfl (by simp [HTL.out]) (fun j u hj => reads_add (by rw [HTL.out]; exact T3.out.below (Keeps.low hHeld1)) hj) (fun u hu => by obtain ⟨x, _, rfl⟩ := List.mem_map.1 hu; rfl) (by rw [PL.out]; unfold maxLen; omega) (by rw [PL.out]; omega) (Keeps.low hHeld1).size (fun v5 w5 hown5 hgrow5 _ => ?_))
  refine hK.out _ _ (⟨(Keeps.low hHeld1).grown hgrow5 (Keeps.low hHeld1).size (fun j hj => (HO4.out.lt j hj).1), trivial⟩) (fun hHeld2 => ?_)
  clear hK K
  try clear hb
  try simp only [Act.put, List.setIfInBounds_toArray, List.set_cons_zero, List.set_cons_succ]
  refine wpAnyH_take (i := 9) (oi := ⟨some 9, _, _, _, _, _⟩) (v := ?_) rfl (by kernel_rfl) (by kernel_rfl) (by kernel_rfl) (fun _ _ _ h => h) (Or.inl ⟨by rfl, ?_⟩) (by assumption) ?_
  rotate_left
  · intro wq hSw; go_simp; (try with_reducible rfl)
  try simp only [Act.put, List.setIfInBounds_toArray, List.set_cons_zero, List.set_cons_succ]
  refine wpAnyH_done (by kernel_rfl) ?_ _
  have hHeld := hHeld2
  have RO : Hid (w5.ownsRow w3.heap.size 5 1 v5 (l ++ D ++ T).length ((l ++ D ++ T).map (Value.int .u8))) := Lib.hid (by rw [List.map_append, PP.out, ← PL.out]; exact hown5)
  clear hown5 hgrow5
  have hHeld5 := hHeld
  clear HO4 hHeld
  obtain ⟨gp, cp, rfl, hcp, i5, lip, _, _⟩ := owns_parts RO.out PP.out (by omega)
  have B5 := Lib.hid (under B3.out hHeld5.1)
  have M5 := Lib.hid (M3.out.below hHeld5.1)
  have P5 := Lib.hid lip
  clear hHeld5 B3 M3 LI3 T3 RO lip
  go_wp2_with fail
  refine (G1.out _ _ (by rw [← PP.out]; exact reads_lie P5.out i5 (by rw [PP.out]; omega))).mono ?_
  rintro e w6 ⟨v6, rfl, hb6, ho6⟩
  have B6 := Lib.hid (under B5.out hb6)
  have M6 := Lib.hid (M5.out.below hb6)
  have P6 := Lib.hid (P5.out.below i5 hb6)
  have R6 := Lib.hid (reads_own (l := ms) ho6)
  have i6 : gp < w6.heap.size := Nat.lt_of_lt_of_le i5 hb6.size
  clear hb6 ho6 B5 M5 P5 i5
  have s1 : (0 : Int) ≤ (l.length : Int) + (k1 : Int) := by omega
  have s2 : (l.length : Int) + (k1 : Int) ≤ (cp : Int) := by omega
  have s4 : ¬ cp = l.length := by omega
  have s3 : ((l.length : Int) + (k1 : Int)).toNat = l.length + k1 := by omega
  go_wp2_with fail
  refine region_keeps (w0 := w6) (L := []) (by kernel_rfl) (⟨Below.refl _ _, trivial⟩) (fun hHeld0 => ?_)
  refine wpAnyH_take (i := 0) (oi := ⟨some 49, _, _, _, _, _⟩) (v := ?_) rfl (by kernel_rfl) (by kernel_rfl) (by kernel_rfl) (fun _ _ _ h => h) (Or.inl ⟨by rfl, ?_⟩) (by assumption) ?_
  rotate_left
  · intro wq hSw; go_simp; (try with_reducible rfl)
  try simp only [Act.put, List.setIfInBounds_toArray, List.set_cons_zero, List.set_cons_succ]
  refine wpAnyH_take (i := 1) (oi := ⟨some 50, _, _, _, _, _⟩) (v := ?_) rfl (by kernel_rfl) (by kernel_rfl) (by kernel_rfl) (fun _ _ _ h => h) (Or.inl ⟨by rfl, ?_⟩) (by assumption) ?_
  rotate_left
  · intro wq hSw; go_simp; (try with_reducible rfl)
  try simp only [Act.put, List.setIfInBounds_toArray, List.set_cons_zero, List.set_cons_succ]
  refine wpAnyH_take (i := 2) (oi := ⟨some 51, _, _, _, _, _⟩) (v := ?_) rfl (by kernel_rfl) (by kernel_rfl) (by kernel_rfl) (fun _ _ _ h => h) (Or.inl ⟨by rfl, ?_⟩) (by assumption) ?_
  rotate_left
  · intro wq hSw; go_simp; (try with_reducible rfl)
  try simp only [Act.put, List.setIfInBounds_toArray, List.set_cons_zero, List.set_cons_succ]
  refine wpAnyH_take (i := 3) (oi := ⟨some 52, _, _, _, _, _⟩) (v := ?_) rfl (by kernel_rfl) (by kernel_rfl) (by kernel_rfl) (fun _ _ _ h => h) (Or.inl ⟨by rfl, ?_⟩) (by assumption) ?_
  rotate_left
  · intro wq hSw; go_simp; (try with_reducible rfl)
  try simp only [Act.put, List.setIfInBounds_toArray, List.set_cons_zero, List.set_cons_succ]
  refine wpAnyH_take (i := 4) (oi := ⟨some 53, _, _, _, _, _⟩) (v := ?_) rfl (by kernel_rfl) (by kernel_rfl) (by kernel_rfl) (fun _ _ _ h => h) (Or.inl ⟨by rfl, ?_⟩) (by assumption) ?_
  rotate_left
  · intro wq hSw; go_simp; (try with_reducible rfl)
  try simp only [Act.put, List.setIfInBounds_toArray, List.set_cons_zero, List.set_cons_succ]
  refine wpAnyH_ready (rs := [5]) (by kernel_rfl) (by simp) ?_
  refine AllReadyH.cons (o := ⟨some 54, _, _, _, _, _⟩) rfl (fun K hK => ?_) AllReadyH.nil
  go_simp
  (first | ((with_reducible refine (EI.out _ _ _ (R6.out.below (Keeps.low (by assumption))) (M6.out.below (Keeps.low (by assumption)))).mono ?_); rintro e w7 ⟨rfl, hb⟩) | ((with_reducible refine (PN0.out _ _ (R6.out.below (Keeps.low (by assumption)))).mono ?_); rintro e w7 ⟨v7, rfl, hb, ho⟩; obtain ⟨g7, c7, rfl, hc7, hg7, li7, _, _⟩ := owns_parts ho HD1.out (by omega); have L7 := Lib.hid li7; clear ho li7) | ((with_reducible refine (SE.out g7 c7 gp l.length (cp - l.length) _ L7.out hg7 hc7 (LA.out _ _ (P6.out.below i6 (Keeps.low (by assumption)))) (Nat.lt_of_lt_of_le i6 (Keeps.low (by assumption)).size) (by omega)).mono ?_); rintro e w8 ⟨rfl, hb⟩))
  refine hK.out _ _ (hHeld0.next hb) (fun hHeld1 => ?_)
  clear hK K
  try clear hb
  try simp only [Act.put, List.setIfInBounds_toArray, List.set_cons_zero, List.set_cons_succ]
  refine wpAnyH_take (i := 6) (oi := ⟨some 55, _, _, _, _, _⟩) (v := ?_) rfl (by kernel_rfl) (by kernel_rfl) (by kernel_rfl) (fun _ _ _ h => h) (Or.inl ⟨by rfl, ?_⟩) (by assumption) ?_
  rotate_left
  · intro wq hSw; go_simp; (try with_reducible rfl)
  try simp only [Act.put, List.setIfInBounds_toArray, List.set_cons_zero, List.set_cons_succ]
  refine wpAnyH_take (i := 7) (oi := ⟨some 56, _, _, _, _, _⟩) (v := ?_) rfl (by kernel_rfl) (by kernel_rfl) (by kernel_rfl) (fun _ _ _ h => h) (Or.inl ⟨by rfl, ?_⟩) (by assumption) ?_
  rotate_left
  · intro wq hSw; go_simp; (try with_reducible rfl)
  try simp only [Act.put, List.setIfInBounds_toArray, List.set_cons_zero, List.set_cons_succ]
  refine wpAnyH_take (i := 8) (oi := ⟨some 57, _, _, _, _, _⟩) (v := ?_) rfl (by kernel_rfl) (by kernel_rfl) (by kernel_rfl) (fun _ _ _ h => h) (Or.inl ⟨by rfl, ?_⟩) (by assumption) ?_
  rotate_left
  · intro wq hSw; go_simp; (try with_reducible rfl)
  try simp only [Act.put, List.setIfInBounds_toArray, List.set_cons_zero, List.set_cons_succ]
  refine wpAnyH_take (i := 9) (oi := ⟨some 58, _, _, _, _, _⟩) (v := ?_) rfl (by kernel_rfl) (by kernel_rfl) (by kernel_rfl) (fun _ _ _ h => h) (Or.inl ⟨by rfl, ?_⟩) (by assumption) ?_
  rotate_left
  · intro wq hSw; go_simp; (try with_reducible rfl)
  try simp only [Act.put, List.setIfInBounds_toArray, List.set_cons_zero, List.set_cons_succ]
  refine wpAnyH_take (i := 11) (oi := ⟨some 60, _, _, _, _, _⟩) (v := ?_) rfl (by kernel_rfl) (by kernel_rfl) (by kernel_rfl) (fun _ _ _ h => h) (Or.inl ⟨by rfl, ?_⟩) (by assumption) ?_
  rotate_left
  · intro wq hSw; go_simp; (try with_reducible rfl)
  try simp only [Act.put, List.setIfInBounds_toArray, List.set_cons_zero, List.set_cons_succ]
  refine wpAnyH_take (i := 12) (oi := ⟨some 61, _, _, _, _, _⟩) (v := ?_) rfl (by kernel_rfl) (by kernel_rfl) (by kernel_rfl) (fun _ _ _ h => h) (Or.inl ⟨by rfl, ?_⟩) (by assumption) ?_
  rotate_left
  · intro wq hSw; go_simp; (try with_reducible rfl)
  try simp only [Act.put, List.setIfInBounds_toArray, List.set_cons_zero, List.set_cons_succ]
  refine wpAnyH_take (i := 13) (oi := ⟨some 62, _, _, _, _, _⟩) (v := ?_) rfl (by kernel_rfl) (by kernel_rfl) (by kernel_rfl) (fun _ _ _ h => h) (Or.inl ⟨by rfl, ?_⟩) (by assumption) ?_
  rotate_left
  · intro wq hSw; go_simp; (try with_reducible rfl)
  try simp only [Act.put, List.setIfInBounds_toArray, List.set_cons_zero, List.set_cons_succ]
  refine wpAnyH_take (i := 14) (oi := ⟨some 63, _, _, _, _, _⟩) (v := ?_) rfl (by kernel_rfl) (by kernel_rfl) (by kernel_rfl) (fun _ _ _ h => h) (Or.inl ⟨by rfl, ?_⟩) (by assumption) ?_
  rotate_left
  · intro wq hSw; go_simp; (try with_reducible rfl)
  try simp only [Act.put, List.setIfInBounds_toArray, List.set_cons_zero, List.set_cons_succ]
  refine wpAnyH_take (i := 15) (oi := ⟨some 64, _, _, _, _, _⟩) (v := ?_) rfl (by kernel_rfl) (by kernel_rfl) (by kernel_rfl) (fun _ _ _ h => h) (Or.inl ⟨by rfl, ?_⟩) (by assumption) ?_
  rotate_left
  · intro wq hSw; go_simp; (try with_reducible rfl)
  try simp only [Act.put, List.setIfInBounds_toArray, List.set_cons_zero, List.set_cons_succ]
  refine wpAnyH_ready (rs := [10]) (by kernel_rfl) (by simp) ?_
  refine AllReadyH.cons (o := ⟨some 59, _, _, _, _, _⟩) rfl (fun K hK => ?_) AllReadyH.nil
  go_simp
  (first | ((with_reducible refine (EI.out _ _ _ (R6.out.below (Keeps.low (by assumption))) (M6.out.below (Keeps.low (by assumption)))).mono ?_); rintro e w7 ⟨rfl, hb⟩) | ((with_reducible refine (PN0.out _ _ (R6.out.below (Keeps.low (by assumption)))).mono ?_); rintro e w7 ⟨v7, rfl, hb, ho⟩; obtain ⟨g7, c7, rfl, hc7, hg7, li7, _, _⟩ := owns_parts ho HD1.out (by omega); have L7 := Lib.hid li7; clear ho li7) | ((with_reducible refine (SE.out g7 c7 gp l.length (cp - l.length) _ L7.out hg7 hc7 (LA.out _ _ (P6.out.below i6 (Keeps.low (by assumption)))) (Nat.lt_of_lt_of_le i6 (Keeps.low (by assumption)).size) (by omega)).mono ?_); rintro e w8 ⟨rfl, hb⟩))
  refine hK.out _ _ (hHeld1.next hb) (fun hHeld2 => ?_)
  clear hK K
  try clear hb
  try simp only [Act.put, List.setIfInBounds_toArray, List.set_cons_zero, List.set_cons_succ]
  refine wpAnyH_ready (rs := [16]) (by kernel_rfl) (by simp) ?_
  refine AllReadyH.cons (o := ⟨some 65, _, _, _, _, _⟩) rfl (fun K hK => ?_) AllReadyH.nil
  go_simp
  (first | ((with_reducible refine (EI.out _ _ _ (R6.out.below (Keeps.low (by assumption))) (M6.out.below (Keeps.low (by assumption)))).mono ?_); rintro e w7 ⟨rfl, hb⟩) | ((with_reducible refine (PN0.out _ _ (R6.out.below (Keeps.low (by assumption)))).mono ?_); rintro e w7 ⟨v7, rfl, hb, ho⟩; obtain ⟨g7, c7, rfl, hc7, hg7, li7, _, _⟩ := owns_parts ho HD1.out (by omega); have L7 := Lib.hid li7; clear ho li7) | ((with_reducible refine (SE.out g7 c7 gp l.length (cp - l.length) _ L7.out hg7 hc7 (LA.out _ _ (P6.out.below i6 (Keeps.low (by assumption)))) (Nat.lt_of_lt_of_le i6 (Keeps.low (by assumption)).size) (by omega)).mono ?_); rintro e w8 ⟨rfl, hb⟩))
  refine hK.out _ _ (hHeld2.next hb) (fun hHeld3 => ?_)
  clear hK K
  try clear hb
  try simp only [Act.put, List.setIfInBounds_toArray, List.set_cons_zero, List.set_cons_succ]
  refine wpAnyH_take (i := 17) (oi := ⟨some 66, _, _, _, _, _⟩) (v := ?_) rfl (by kernel_rfl) (by kernel_rfl) (by kernel_rfl) (fun _ _ _ h => h) (Or.inl ⟨by rfl, ?_⟩) (by assumption) ?_
  rotate_left
  · intro wq hSw; go_simp; (try with_reducible rfl)
  try simp only [Act.put, List.setIfInBounds_toArray, List.set_cons_zero, List.set_cons_succ]
  refine wpAnyH_take (i := 18) (oi := ⟨some 67, _, _, _, _, _⟩) (v := ?_) rfl (by kernel_rfl) (by kernel_rfl) (by kernel_rfl) (fun _ _ _ h => h) (Or.inl ⟨by rfl, ?_⟩) (by assumption) ?_
  rotate_left
  · intro wq hSw; go_simp; (try with_reducible rfl)
  try simp only [Act.put, List.setIfInBounds_toArray, List.set_cons_zero, List.set_cons_succ]
  refine wpAnyH_done (by kernel_rfl) ?_ _
  have hHeld := hHeld3
  clear s1 s2 s3 s4
  have B8 := Lib.hid (under B6.out hHeld.1)
  have P8 := Lib.hid (P6.out.below i6 hHeld.1)
  have i8 : gp < w8.heap.size := Nat.lt_of_lt_of_le i6 hHeld.1.size
  clear hHeld B6 M6 P6 R6 i6 L7 hg7 hc7
  go_wp2_with fail
  refine (G2.out (by omega) _ _ (by rw [← PP.out]; exact reads_lie P8.out i8 (by rw [PP.out]; omega))).mono ?_
  rintro e w9 ⟨v9, rfl, hb9, _⟩
  have B9 := Lib.hid (under B8.out hb9)
  have P9 := Lib.hid (P8.out.below i8 hb9)
  have i9 : gp < w9.heap.size := Nat.lt_of_lt_of_le i8 hb9.size
  clear hb9 B8 P8 i8
  go_wp2_with fail
  go_loopw [16] (fun i wr => ∃ k : Nat, i = .int .i64 k ∧ l.length ≤ k ∧ k ≤ l.length + k1 ∧ Below w9.heap.size w9 wr) (fun i _ => l.length + k1 - (intOf i).toNat)
  case atStart => exact ⟨l.length, rfl, by omega, by omega, Below.refl _ _⟩
  case round =>
    obtain ⟨k, rfl, hk1, hk2, hBr⟩ := hrel
    by_cases gk : k < l.length + k1
    · have GK := Lib.hid (G3.out (k - l.length) (by omega) (.slice (some ⟨gp, 0, none⟩) k cp) wr (by
        have := reads_take (reads_lie (c := cp) (P9.out.below i9 hBr) (Nat.lt_of_lt_of_le i9 hBr.size) (by rw [PP.out]; omega)) k (by rw [PP.out]; omega)
        rwa [show l.length + (k - l.length) = k from by omega]))
      have ik : (k : Int) < (l.length : Int) + (k1 : Int) := by omega
      go_wp2_with fail
      refine GK.out.mono ?_
      rintro e w10 ⟨v10, rfl, hb10, _⟩
      have hB10 := under hBr hb10
      clear hb10 hBr GK
      go_wp2_with fail
      go_roundw
      case rel => exact ⟨k + 1, by simp, by omega, by omega, hB10⟩
      case measure => simp [intOf]; omega
    · have B10 := Lib.hid (under B9.out hBr)
      have ik : ¬ (k : Int) < (l.length : Int) + (k1 : Int) := by omega
      clear hBr
      go_wp2_with fail
      go_ret
      exact ⟨rfl, B10.out⟩

set_option maxRecDepth 100000 in
set_option maxHeartbeats 16000000 in
theorem list_sn (b : List Int) (hbl : b.length ≤ 9223372036854775807) (hbb : ∀ z ∈ b, 0 ≤ z ∧ z < 256) (x : List Int) (hx : x.length ≤ 60) (hxr : ∀ z ∈ x, -9223372036854775808 ≤ z ∧ z ≤ 9223372036854775807) (t : List Int) (ht : t.length ≤ 30) (htb : ∀ z ∈ t, 0 ≤ z ∧ z < 256) (v v0 vt : Value) (w : World) (h : Reads .u8 w v b) (h0 : Reads .i64 w v0 x) (h2 : Reads .u8 w vt t) (hnil : vt = .slice none 0 0) :
    Calls Try.prog 9 #[v, v0, vt] w (Ret w (.bool true)) := by
  obtain ⟨i0, hi, hz0, hz1, hz2⟩ := info_parts infoU8
  have HH := Lib.hid (fun W (hb : Below w.heap.size w W) => head_any b hbl v W (h.below hb))
  have hl4 : (b.take 400).length ≤ 400 := by simp; omega
  have hlb : ∀ z ∈ b.take 400, 0 ≤ z ∧ z < 256 := fun z hz => hbb z (List.mem_of_mem_take hz)
  generalize b.take 400 = l at *
  obtain ⟨A0, c0, rfl, hc0, hk0⟩ := h0
  subst hnil
  obtain ⟨At, ct, hAt, hct, hkt⟩ := h2
  injection hAt with hAt1 hAt2 hAt3
  have ht0 : t = [] := List.eq_nil_of_length_eq_zero hAt2.symm
  clear hAt1 hAt2 hAt3
  have hm1 : (x.take 60).length ≤ 60 := by simp; omega
  have hml : (x.take 60).length = x.length := by simp; omega
  have hmr : ∀ z ∈ x.take 60, -9223372036854775808 ≤ z ∧ z ≤ 9223372036854775807 := fun z hz => hxr z (List.mem_of_mem_take hz)
  have RX : Hid (Reads .i64 w (.slice A0 x.length c0) (x.take 60)) := Lib.hid (by
    have := reads_take (A := A0) (c := c0) ⟨A0, c0, rfl, hc0, hk0⟩ (x.take 60).length (by simp; omega)
    rw [hml] at this
    have e : x.take x.length = x.take 60 := by rw [List.take_of_length_le (Nat.le_refl _), List.take_of_length_le hx]
    rwa [e] at this)
  have ht1 : (t.take 30).length ≤ 30 := by simp; omega
  have htl : (t.take 30).length = 0 := by rw [ht0]; rfl
  have htr : ∀ z ∈ t.take 30, 0 ≤ z ∧ z < 256 := fun z hz => htb z (List.mem_of_mem_take hz)
  have RT : Hid (Reads .u8 w (.slice none 0 0) (t.take 30)) := Lib.hid (by rw [ht0]; exact Reads.nil)
  have CX := Lib.hid (fun W (hb : Below w.heap.size w W) => cloneI (x.take 60) (by omega) _ W (RX.out.below hb))
  have EI := Lib.hid (fun v1 v2 W (h1 : Reads .i64 W v1 (x.take 60)) (h2 : Reads .i64 W v2 (x.take 60)) => equalI (x.take 60) (x.take 60) (by omega) v1 v2 W h1 h2)
  rw [eqB_true rfl] at EI
  have PR0 := Lib.hid (fun v1 v2 W (h1 : Reads .u8 W v1 l) (h2 : Reads .i64 W v2 (x.take 60)) => putRow_any l (by omega) (x.take 60) (by omega) hmr v1 v2 W h1 h2)
  have PN0 := Lib.hid (fun v2 W (h2 : Reads .i64 W v2 (x.take 60)) => putRow_any [] (by simp) (x.take 60) (by omega) hmr _ v2 W (Reads.nil (k := .u8)) h2)
  rw [List.nil_append] at PN0
  have hD := rowBytes_len hm1 hmr
  have hDb := rowBytes_b (by omega) hmr
  have hPb : ∀ z ∈ l ++ rowBytes (x.take 60) ++ t.take 30, 0 ≤ z ∧ z < 256 := fun z hz' => by
    rcases List.mem_append.1 hz' with hz' | hz'
    · rcases List.mem_append.1 hz' with hz' | hz'
      · exact hlb z hz'
      · exact hDb z hz'
    · exact htr z hz'
  have hPl : (l ++ rowBytes (x.take 60) ++ t.take 30).length ≤ 2000 := by rw [List.length_append, List.length_append]; omega
  have G1 := Lib.hid (fun v W (hr : Reads .u8 W v (l ++ rowBytes (x.take 60) ++ t.take 30)) => getRow_any _ (by omega) hPb l.length (x.take 60).length (by omega) v W hr)
  rw [gotRow_put hm1 hmr] at G1
  have G2 : Hid (1 ≤ (x.take 60).length → ∀ v W, Reads .u8 W v (l ++ rowBytes (x.take 60) ++ t.take 30) → Calls Try.prog 29 #[v, .int .i64 l.length, .int .i64 (((x.take 60).length : Int) - 1)] W (MadeR W ([], 0, 3))) := Lib.hid (fun h1 v W hr => by
    have := getRow_any _ (by omega) hPb l.length (((x.take 60).length : Int) - 1) (by omega) v W hr
    rwa [gotRow_less hm1 h1] at this)
  have G3 : Hid (∀ j, j < (rowBytes (x.take 60)).length → ∀ v W, Reads .u8 W v ((l ++ rowBytes (x.take 60) ++ t.take 30).take (l.length + j)) → Calls Try.prog 29 #[v, .int .i64 l.length, .int .i64 (x.take 60).length] W (MadeR W ([], 0, 6))) := Lib.hid (fun j hj v W hr => by
    have := getRow_any ((l ++ rowBytes (x.take 60) ++ t.take 30).take (l.length + j)) (by rw [List.length_take]; omega) (fun z hz => hPb z (List.mem_of_mem_take hz)) l.length (x.take 60).length (by omega) v W hr
    rwa [gotRow_cut hm1 hmr hj] at this)
  have LA : Hid (∀ (W : World) (gp : Nat), Lie W gp 0 (l ++ rowBytes (x.take 60) ++ t.take 30) → Lie W gp l.length (rowBytes (x.take 60))) := Lib.hid (fun W gp hlie i z hz => by
    have := hlie (l.length + i) z (by rw [List.append_assoc, List.getElem?_append_right (by omega), Nat.add_sub_cancel_left, List.getElem?_append_left (List.getElem?_eq_some_iff.1 hz).1]; exact hz)
    rwa [Nat.zero_add] at this)
  generalize rowBytes (x.take 60) = D at *
  generalize t.take 30 = T at *
  obtain ⟨k1, hk1⟩ : ∃ k, D.length = k := ⟨_, rfl⟩
  rw [hk1] at hD G1 G3
  have HD1 := Lib.hid hk1
  rw [hml] at G1 G2 G3
  have PL : Hid ((l ++ D).length = l.length + k1) := Lib.hid (by simp [hk1])
  have PP : Hid ((l ++ D ++ T).length = l.length + k1) := Lib.hid (by simp [hk1, htl])
  have HTL := Lib.hid htl
  have HML := Lib.hid hml
  have EQ1 := Lib.hid (fun v v2 W (h1 : Reads .u8 W v D) (h2 : Reads .u8 W v2 D) => equalB D D (by omega) v v2 W h1 h2)
  rw [eqB_true rfl] at EQ1
  have SE := Lib.hid (@same_row D k1 hk1 hD.2)
  generalize x.take 60 = ms at *
  have hms := HML.out
  have HT0 : Hid (T = []) := Lib.hid (List.eq_nil_of_length_eq_zero htl)
  clear ht0 ht hct
  clear h hbb hbl hlb hk1 hxr hk0 hmr hDb hkt htr htb hPb hPl hml htl hms
  go_enter Try.func9, Try.ntmps9
  go_wp2_with fail
  refine (wakes_any _).mono ?_
  rintro e w1 ⟨rfl, hb1⟩
  have B1 := Lib.hid hb1
  clear hb1
  go_wp2_with fail
  refine (CX.out _ B1.out).mono ?_
  rintro e w2 ⟨v2, rfl, hb2, ho2⟩
  obtain ⟨A2, c2, rfl⟩ := made_len ho2
  have B2 := Lib.hid (under B1.out hb2)
  have M2 := Lib.hid (reads_own ho2)
  rw [HML.out]
  rw [HML.out] at M2
  clear hb2 ho2 B1
  go_wp2_with fail
  refine (HH.out _ B2.out).mono ?_
  intro e w3 hhead
  obtain ⟨g, cap, rfl, hb3, hg, hcap, hlie, _⟩ := head_parts hhead
  have B3 := Lib.hid (under B2.out hb3)
  have LI3 := Lib.hid hlie.left
  have M3 := Lib.hid (M2.out.below hb3)
  have T3 := Lib.hid (RT.out.below B3.out)
  clear hb3 hhead hlie B2 M2
  go_wp2_with fail
  refine region_keeps (w0 := w3) (L := []) (by kernel_rfl) (⟨Below.refl _ _, trivial⟩) (fun hHeld0 => ?_)
  refine wpAnyH_take (i := 0) (oi := ⟨some 30, _, _, _, _, _⟩) (v := ?_) rfl (by kernel_rfl) (by kernel_rfl) (by kernel_rfl) (fun _ _ _ h => h) (Or.inl ⟨by rfl, ?_⟩) (by assumption) ?_
  rotate_left
  · intro wq hSw; go_simp; (try with_reducible rfl)
  try simp only [Act.put, List.setIfInBounds_toArray, List.set_cons_zero, List.set_cons_succ]
  refine wpAnyH_take (i := 1) (oi := ⟨some 31, _, _, _, _, _⟩) (v := ?_) rfl (by kernel_rfl) (by kernel_rfl) (by kernel_rfl) (fun _ _ _ h => h) (Or.inl ⟨by rfl, ?_⟩) (by assumption) ?_
  rotate_left
  · intro wq hSw; go_simp; (try with_reducible rfl)
  try simp only [Act.put, List.setIfInBounds_toArray, List.set_cons_zero, List.set_cons_succ]
  refine wpAnyH_take (i := 3) (oi := ⟨some 33, _, _, _, _, _⟩) (v := ?_) rfl (by kernel_rfl) (by kernel_rfl) (by kernel_rfl) (fun _ _ _ h => h) (Or.inl ⟨by rfl, ?_⟩) (by assumption) ?_
  rotate_left
  · intro wq hSw; go_simp; (try with_reducible rfl)
  try simp only [Act.put, List.setIfInBounds_toArray, List.set_cons_zero, List.set_cons_succ]
  refine wpAnyH_take (i := 4) (oi := ⟨some 34, _, _, _, _, _⟩) (v := ?_) rfl (by kernel_rfl) (by kernel_rfl) (by kernel_rfl) (fun _ _ _ h => h) (Or.inl ⟨by rfl, ?_⟩) (by assumption) ?_
  rotate_left
  · intro wq hSw; go_simp; (try with_reducible rfl)
  try simp only [Act.put, List.setIfInBounds_toArray, List.set_cons_zero, List.set_cons_succ]
  refine wpAnyH_take (i := 5) (oi := ⟨some 35, _, _, _, _, _⟩) (v := ?_) rfl (by kernel_rfl) (by kernel_rfl) (by kernel_rfl) (fun _ _ _ h => h) (Or.inl ⟨by rfl, ?_⟩) (by assumption) ?_
  rotate_left
  · intro wq hSw; go_simp; (try with_reducible rfl)
  try simp only [Act.put, List.setIfInBounds_toArray, List.set_cons_zero, List.set_cons_succ]
  refine wpAnyH_take (i := 6) (oi := ⟨some 36, _, _, _, _, _⟩) (v := ?_) rfl (by kernel_rfl) (by kernel_rfl) (by kernel_rfl) (fun _ _ _ h => h) (Or.inl ⟨by rfl, ?_⟩) (by assumption) ?_
  rotate_left
  · intro wq hSw; go_simp; (try with_reducible rfl)
  try simp only [Act.put, List.setIfInBounds_toArray, List.set_cons_zero, List.set_cons_succ]
  refine wpAnyH_take (i := 7) (oi := ⟨some 37, _, _, _, _, _⟩) (v := ?_) rfl (by kernel_rfl) (by kernel_rfl) (by kernel_rfl) (fun _ _ _ h => h) (Or.inl ⟨by rfl, ?_⟩) (by assumption) ?_
  rotate_left
  · intro wq hSw; go_simp; (try with_reducible rfl)
  try simp only [Act.put, List.setIfInBounds_toArray, List.set_cons_zero, List.set_cons_succ]
  refine wpAnyH_ready (rs := [2]) (by kernel_rfl) (by simp) ?_
  refine AllReadyH.cons (o := ⟨some 32, _, _, _, _, _⟩) rfl (fun K hK => ?_) AllReadyH.nil
  go_simp
  (with_reducible refine (PR0.out _ _ _ (reads_lie (c := cap) (LI3.out.below hg (Keeps.low (by assumption))) (Nat.lt_of_lt_of_le hg (Keeps.low (by assumption)).size) (by omega)) (M3.out.below (Keeps.low (by assumption)))).mono ?_); rintro e w4 ⟨v4, rfl, hb, ho⟩; have HO4 : Hid (w4.ownsRow w3.heap.size 5 1 v4 (l ++ D).length ((l ++ D).map (Value.int .u8))) := Lib.hid ho; clear ho
  refine hK.out _ _ (hHeld0.next hb) (fun hHeld1 => ?_)
  clear hK K
  try clear hb
  try simp only [Act.put, List.setIfInBounds_toArray, List.set_cons_zero, List.set_cons_succ]
  refine wpAnyH_ready (rs := [8]) (by kernel_rfl) (by simp) ?_
  refine AllReadyH.cons (o := ⟨some 38, _, _, _, _, _⟩) rfl (fun K hK => ?_) AllReadyH.nil
  (refine if_wanted rfl ?_; refine wp_append_none (.tmp 32) (.tmp 37) 22 rfl w3.heap.size 5 i0 1 Try.underlying22 hi v4 _ _ rfl HO4.out rfl ?_)
  refine hK.out _ _ (hHeld1) (fun hHeld2 => ?_)
  clear hK K
  try clear hb
  try simp only [Act.put, List.setIfInBounds_toArray, List.set_cons_zero, List.set_cons_succ]
  refine wpAnyH_take (i := 9) (oi := ⟨some 9, _, _, _, _, _⟩) (v := ?_) rfl (by kernel_rfl) (by kernel_rfl) (by kernel_rfl) (fun _ _ _ h => h) (Or.inl ⟨by rfl, ?_⟩) (by assumption) ?_
  rotate_left
  · intro wq hSw; go_simp; (try with_reducible rfl)
  try simp only [Act.put, List.setIfInBounds_toArray, List.set_cons_zero, List.set_cons_succ]
  refine wpAnyH_done (by kernel_rfl) ?_ _
  have hHeld := hHeld2
  obtain ⟨w5, hw5⟩ : ∃ y, y = w4 := ⟨_, rfl⟩
  obtain ⟨v5, hv5⟩ : ∃ y, y = v4 := ⟨_, rfl⟩
  have RO : Hid (w5.ownsRow w3.heap.size 5 1 v5 (l ++ D ++ T).length ((l ++ D ++ T).map (Value.int .u8))) := Lib.hid (by rw [HT0.out, List.append_nil, hw5, hv5]; exact HO4.out)
  subst hw5
  subst hv5
  have hHeld5 := hHeld
  clear HO4 hHeld
  obtain ⟨gp, cp, rfl, hcp, i5, lip, _, _⟩ := owns_parts RO.out PP.out (by omega)
  have B5 := Lib.hid (under B3.out hHeld5.1)
  have M5 := Lib.hid (M3.out.below hHeld5.1)
  have P5 := Lib.hid lip
  clear hHeld5 B3 M3 LI3 T3 RO lip
  go_wp2_with fail
  refine (G1.out _ _ (by rw [← PP.out]; exact reads_lie P5.out i5 (by rw [PP.out]; omega))).mono ?_
  rintro e w6 ⟨v6, rfl, hb6, ho6⟩
  have B6 := Lib.hid (under B5.out hb6)
  have M6 := Lib.hid (M5.out.below hb6)
  have P6 := Lib.hid (P5.out.below i5 hb6)
  have R6 := Lib.hid (reads_own (l := ms) ho6)
  have i6 : gp < w6.heap.size := Nat.lt_of_lt_of_le i5 hb6.size
  clear hb6 ho6 B5 M5 P5 i5
  have s1 : (0 : Int) ≤ (l.length : Int) + (k1 : Int) := by omega
  have s2 : (l.length : Int) + (k1 : Int) ≤ (cp : Int) := by omega
  have s4 : ¬ cp = l.length := by omega
  have s3 : ((l.length : Int) + (k1 : Int)).toNat = l.length + k1 := by omega
  go_wp2_with fail
  refine region_keeps (w0 := w6) (L := []) (by kernel_rfl) (⟨Below.refl _ _, trivial⟩) (fun hHeld0 => ?_)
  refine wpAnyH_take (i := 0) (oi := ⟨some 49, _, _, _, _, _⟩) (v := ?_) rfl (by kernel_rfl) (by kernel_rfl) (by kernel_rfl) (fun _ _ _ h => h) (Or.inl ⟨by rfl, ?_⟩) (by assumption) ?_
  rotate_left
  · intro wq hSw; go_simp; (try with_reducible rfl)
  try simp only [Act.put, List.setIfInBounds_toArray, List.set_cons_zero, List.set_cons_succ]
  refine wpAnyH_take (i := 1) (oi := ⟨some 50, _, _, _, _, _⟩) (v := ?_) rfl (by kernel_rfl) (by kernel_rfl) (by kernel_rfl) (fun _ _ _ h => h) (Or.inl ⟨by rfl, ?_⟩) (by assumption) ?_
  rotate_left
  · intro wq hSw; go_simp; (try with_reducible rfl)
  try simp only [Act.put, List.setIfInBounds_toArray, List.set_cons_zero, List.set_cons_succ]
  refine wpAnyH_take (i := 2) (oi := ⟨some 51, _, _, _, _, _⟩) (v := ?_) rfl (by kernel_rfl) (by kernel_rfl) (by kernel_rfl) (fun _ _ _ h => h) (Or.inl ⟨by rfl, ?_⟩) (by assumption) ?_
  rotate_left
  · intro wq hSw; go_simp; (try with_reducible rfl)
  try simp only [Act.put, List.setIfInBounds_toArray, List.set_cons_zero, List.set_cons_succ]
  refine wpAnyH_take (i := 3) (oi := ⟨some 52, _, _, _, _, _⟩) (v := ?_) rfl (by kernel_rfl) (by kernel_rfl) (by kernel_rfl) (fun _ _ _ h => h) (Or.inl ⟨by rfl, ?_⟩) (by assumption) ?_
  rotate_left
  · intro wq hSw; go_simp; (try with_reducible rfl)
  try simp only [Act.put, List.setIfInBounds_toArray, List.set_cons_zero, List.set_cons_succ]
  refine wpAnyH_take (i := 4) (oi := ⟨some 53, _, _, _, _, _⟩) (v := ?_) rfl (by kernel_rfl) (by kernel_rfl) (by kernel_rfl) (fun _ _ _ h => h) (Or.inl ⟨by rfl, ?_⟩) (by assumption) ?_
  rotate_left
  · intro wq hSw; go_simp; (try with_reducible rfl)
  try simp only [Act.put, List.setIfInBounds_toArray, List.set_cons_zero, List.set_cons_succ]
  refine wpAnyH_ready (rs := [5]) (by kernel_rfl) (by simp) ?_
  refine AllReadyH.cons (o := ⟨some 54, _, _, _, _, _⟩) rfl (fun K hK => ?_) AllReadyH.nil
  go_simp
  (first | ((with_reducible refine (EI.out _ _ _ (R6.out.below (Keeps.low (by assumption))) (M6.out.below (Keeps.low (by assumption)))).mono ?_); rintro e w7 ⟨rfl, hb⟩) | ((with_reducible refine (PN0.out _ _ (R6.out.below (Keeps.low (by assumption)))).mono ?_); rintro e w7 ⟨v7, rfl, hb, ho⟩; obtain ⟨g7, c7, rfl, hc7, hg7, li7, _, _⟩ := owns_parts ho HD1.out (by omega); have L7 := Lib.hid li7; clear ho li7) | ((with_reducible refine (SE.out g7 c7 gp l.length (cp - l.length) _ L7.out hg7 hc7 (LA.out _ _ (P6.out.below i6 (Keeps.low (by assumption)))) (Nat.lt_of_lt_of_le i6 (Keeps.low (by assumption)).size) (by omega)).mono ?_); rintro e w8 ⟨rfl, hb⟩))
  refine hK.out _ _ (hHeld0.next hb) (fun hHeld1 => ?_)
  clear hK K
  try clear hb
  try simp only [Act.put, List.setIfInBounds_toArray, List.set_cons_zero, List.set_cons_succ]
  refine wpAnyH_take (i := 6) (oi := ⟨some 55, _, _, _, _, _⟩) (v := ?_) rfl (by kernel_rfl) (by kernel_rfl) (by kernel_rfl) (fun _ _ _ h => h) (Or.inl ⟨by rfl, ?_⟩) (by assumption) ?_
  rotate_left
  · intro wq hSw; go_simp; (try with_reducible rfl)
  try simp only [Act.put, List.setIfInBounds_toArray, List.set_cons_zero, List.set_cons_succ]
  refine wpAnyH_take (i := 7) (oi := ⟨some 56, _, _, _, _, _⟩) (v := ?_) rfl (by kernel_rfl) (by kernel_rfl) (by kernel_rfl) (fun _ _ _ h => h) (Or.inl ⟨by rfl, ?_⟩) (by assumption) ?_
  rotate_left
  · intro wq hSw; go_simp; (try with_reducible rfl)
  try simp only [Act.put, List.setIfInBounds_toArray, List.set_cons_zero, List.set_cons_succ]
  refine wpAnyH_take (i := 8) (oi := ⟨some 57, _, _, _, _, _⟩) (v := ?_) rfl (by kernel_rfl) (by kernel_rfl) (by kernel_rfl) (fun _ _ _ h => h) (Or.inl ⟨by rfl, ?_⟩) (by assumption) ?_
  rotate_left
  · intro wq hSw; go_simp; (try with_reducible rfl)
  try simp only [Act.put, List.setIfInBounds_toArray, List.set_cons_zero, List.set_cons_succ]
  refine wpAnyH_take (i := 9) (oi := ⟨some 58, _, _, _, _, _⟩) (v := ?_) rfl (by kernel_rfl) (by kernel_rfl) (by kernel_rfl) (fun _ _ _ h => h) (Or.inl ⟨by rfl, ?_⟩) (by assumption) ?_
  rotate_left
  · intro wq hSw; go_simp; (try with_reducible rfl)
  try simp only [Act.put, List.setIfInBounds_toArray, List.set_cons_zero, List.set_cons_succ]
  refine wpAnyH_take (i := 11) (oi := ⟨some 60, _, _, _, _, _⟩) (v := ?_) rfl (by kernel_rfl) (by kernel_rfl) (by kernel_rfl) (fun _ _ _ h => h) (Or.inl ⟨by rfl, ?_⟩) (by assumption) ?_
  rotate_left
  · intro wq hSw; go_simp; (try with_reducible rfl)
  try simp only [Act.put, List.setIfInBounds_toArray, List.set_cons_zero, List.set_cons_succ]
  refine wpAnyH_take (i := 12) (oi := ⟨some 61, _, _, _, _, _⟩) (v := ?_) rfl (by kernel_rfl) (by kernel_rfl) (by kernel_rfl) (fun _ _ _ h => h) (Or.inl ⟨by rfl, ?_⟩) (by assumption) ?_
  rotate_left
  · intro wq hSw; go_simp; (try with_reducible rfl)
  try simp only [Act.put, List.setIfInBounds_toArray, List.set_cons_zero, List.set_cons_succ]
  refine wpAnyH_take (i := 13) (oi := ⟨some 62, _, _, _, _, _⟩) (v := ?_) rfl (by kernel_rfl) (by kernel_rfl) (by kernel_rfl) (fun _ _ _ h => h) (Or.inl ⟨by rfl, ?_⟩) (by assumption) ?_
  rotate_left
  · intro wq hSw; go_simp; (try with_reducible rfl)
  try simp only [Act.put, List.setIfInBounds_toArray, List.set_cons_zero, List.set_cons_succ]
  refine wpAnyH_take (i := 14) (oi := ⟨some 63, _, _, _, _, _⟩) (v := ?_) rfl (by kernel_rfl) (by kernel_rfl) (by kernel_rfl) (fun _ _ _ h => h) (Or.inl ⟨by rfl, ?_⟩) (by assumption) ?_
  rotate_left
  · intro wq hSw; go_simp; (try with_reducible rfl)
  try simp only [Act.put, List.setIfInBounds_toArray, List.set_cons_zero, List.set_cons_succ]
  refine wpAnyH_take (i := 15) (oi := ⟨some 64, _, _, _, _, _⟩) (v := ?_) rfl (by kernel_rfl) (by kernel_rfl) (by kernel_rfl) (fun _ _ _ h => h) (Or.inl ⟨by rfl, ?_⟩) (by assumption) ?_
  rotate_left
  · intro wq hSw; go_simp; (try with_reducible rfl)
  try simp only [Act.put, List.setIfInBounds_toArray, List.set_cons_zero, List.set_cons_succ]
  refine wpAnyH_ready (rs := [10]) (by kernel_rfl) (by simp) ?_
  refine AllReadyH.cons (o := ⟨some 59, _, _, _, _, _⟩) rfl (fun K hK => ?_) AllReadyH.nil
  go_simp
  (first | ((with_reducible refine (EI.out _ _ _ (R6.out.below (Keeps.low (by assumption))) (M6.out.below (Keeps.low (by assumption)))).mono ?_); rintro e w7 ⟨rfl, hb⟩) | ((with_reducible refine (PN0.out _ _ (R6.out.below (Keeps.low (by assumption)))).mono ?_); rintro e w7 ⟨v7, rfl, hb, ho⟩; obtain ⟨g7, c7, rfl, hc7, hg7, li7, _, _⟩ := owns_parts ho HD1.out (by omega); have L7 := Lib.hid li7; clear ho li7) | ((with_reducible refine (SE.out g7 c7 gp l.length (cp - l.length) _ L7.out hg7 hc7 (LA.out _ _ (P6.out.below i6 (Keeps.low (by assumption)))) (Nat.lt_of_lt_of_le i6 (Keeps.low (by assumption)).size) (by omega)).mono ?_); rintro e w8 ⟨rfl, hb⟩))
  refine hK.out _ _ (hHeld1.next hb) (fun hHeld2 => ?_)
  clear hK K
  try clear hb
  try simp only [Act.put, List.setIfInBounds_toArray, List.set_cons_zero, List.set_cons_succ]
  refine wpAnyH_ready (rs := [16]) (by kernel_rfl) (by simp) ?_
  refine AllReadyH.cons (o := ⟨some 65, _, _, _, _, _⟩) rfl (fun K hK => ?_) AllReadyH.nil
  go_simp
  (first | ((with_reducible refine (EI.out _ _ _ (R6.out.below (Keeps.low (by assumption))) (M6.out.below (Keeps.low (by assumption)))).mono ?_); rintro e w7 ⟨rfl, hb⟩) | ((with_reducible refine (PN0.out _ _ (R6.out.below (Keeps.low (by assumption)))).mono ?_); rintro e w7 ⟨v7, rfl, hb, ho⟩; obtain ⟨g7, c7, rfl, hc7, hg7, li7, _, _⟩ := owns_parts ho HD1.out (by omega); have L7 := Lib.hid li7; clear ho li7) | ((with_reducible refine (SE.out g7 c7 gp l.length (cp - l.length) _ L7.out hg7 hc7 (LA.out _ _ (P6.out.below i6 (Keeps.low (by assumption)))) (Nat.lt_of_lt_of_le i6 (Keeps.low (by assumption)).size) (by omega)).mono ?_); rintro e w8 ⟨rfl, hb⟩))
  refine hK.out _ _ (hHeld2.next hb) (fun hHeld3 => ?_)
  clear hK K
  try clear hb
  try simp only [Act.put, List.setIfInBounds_toArray, List.set_cons_zero, List.set_cons_succ]
  refine wpAnyH_take (i := 17) (oi := ⟨some 66, _, _, _, _, _⟩) (v := ?_) rfl (by kernel_rfl) (by kernel_rfl) (by kernel_rfl) (fun _ _ _ h => h) (Or.inl ⟨by rfl, ?_⟩) (by assumption) ?_
  rotate_left
  · intro wq hSw; go_simp; (try with_reducible rfl)
  try simp only [Act.put, List.setIfInBounds_toArray, List.set_cons_zero, List.set_cons_succ]
  refine wpAnyH_take (i := 18) (oi := ⟨some 67, _, _, _, _, _⟩) (v := ?_) rfl (by kernel_rfl) (by kernel_rfl) (by kernel_rfl) (fun _ _ _ h => h) (Or.inl ⟨by rfl, ?_⟩) (by assumption) ?_
  rotate_left
  · intro wq hSw; go_simp; (try with_reducible rfl)
  try simp only [Act.put, List.setIfInBounds_toArray, List.set_cons_zero, List.set_cons_succ]
  refine wpAnyH_done (by kernel_rfl) ?_ _
  have hHeld := hHeld3
  clear s1 s2 s3 s4
  have B8 := Lib.hid (under B6.out hHeld.1)
  have P8 := Lib.hid (P6.out.below i6 hHeld.1)
  have i8 : gp < w8.heap.size := Nat.lt_of_lt_of_le i6 hHeld.1.size
  clear hHeld B6 M6 P6 R6 i6 L7 hg7 hc7
  by_cases gx0 : 1 ≤ x.length
  · have ix0 : (0 : Int) < (x.length : Int) := by omega
    go_wp2_with fail
    refine (G2.out (by omega) _ _ (by rw [← PP.out]; exact reads_lie P8.out i8 (by rw [PP.out]; omega))).mono ?_
    rintro e w9 ⟨v9, rfl, hb9, _⟩
    have B9 := Lib.hid (under B8.out hb9)
    have P9 := Lib.hid (P8.out.below i8 hb9)
    have i9 : gp < w9.heap.size := Nat.lt_of_lt_of_le i8 hb9.size
    clear hb9 B8 P8 i8
    go_wp2_with fail
    go_loopw [16] (fun i wr => ∃ k : Nat, i = .int .i64 k ∧ l.length ≤ k ∧ k ≤ l.length + k1 ∧ Below w9.heap.size w9 wr) (fun i _ => l.length + k1 - (intOf i).toNat)
    case atStart => exact ⟨l.length, rfl, by omega, by omega, Below.refl _ _⟩
    case round =>
      obtain ⟨k, rfl, hk1, hk2, hBr⟩ := hrel
      by_cases gk : k < l.length + k1
      · have GK := Lib.hid (G3.out (k - l.length) (by omega) (.slice (some ⟨gp, 0, none⟩) k cp) wr (by
          have := reads_take (reads_lie (c := cp) (P9.out.below i9 hBr) (Nat.lt_of_lt_of_le i9 hBr.size) (by rw [PP.out]; omega)) k (by rw [PP.out]; omega)
          rwa [show l.length + (k - l.length) = k from by omega]))
        have ik : (k : Int) < (l.length : Int) + (k1 : Int) := by omega
        go_wp2_with fail
        refine GK.out.mono ?_
        rintro e w10 ⟨v10, rfl, hb10, _⟩
        have hB10 := under hBr hb10
        clear hb10 hBr GK
        go_wp2_with fail
        go_roundw
        case rel => exact ⟨k + 1, by simp, by omega, by omega, hB10⟩
        case measure => simp [intOf]; omega
      · have B10 := Lib.hid (under B9.out hBr)
        have ik : ¬ (k : Int) < (l.length : Int) + (k1 : Int) := by omega
        clear hBr
        go_wp2_with fail
        go_ret
        exact ⟨rfl, B10.out⟩
  · have ix0 : ¬ (0 : Int) < (x.length : Int) := by omega
    obtain ⟨w9, hw9⟩ : ∃ y, y = w8 := ⟨_, rfl⟩
    have B9 : Hid (Below w.heap.size w w9) := by rw [hw9]; exact B8
    have P9 : Hid (Lie w9 gp 0 (l ++ D ++ T)) := by rw [hw9]; exact P8
    have i9 : gp < w9.heap.size := by rw [hw9]; exact i8
    rw [← hw9]
    clear hw9 B8 P8 i8
    go_wp2_with fail
    go_loopw [16] (fun i wr => ∃ k : Nat, i = .int .i64 k ∧ l.length ≤ k ∧ k ≤ l.length + k1 ∧ Below w9.heap.size w9 wr) (fun i _ => l.length + k1 - (intOf i).toNat)
    case atStart => exact ⟨l.length, rfl, by omega, by omega, Below.refl _ _⟩
    case round =>
      obtain ⟨k, rfl, hk1, hk2, hBr⟩ := hrel
      by_cases gk : k < l.length + k1
      · have GK := Lib.hid (G3.out (k - l.length) (by omega) (.slice (some ⟨gp, 0, none⟩) k cp) wr (by
          have := reads_take (reads_lie (c := cp) (P9.out.below i9 hBr) (Nat.lt_of_lt_of_le i9 hBr.size) (by rw [PP.out]; omega)) k (by rw [PP.out]; omega)
          rwa [show l.length + (k - l.length) = k from by omega]))
        have ik : (k : Int) < (l.length : Int) + (k1 : Int) := by omega
        go_wp2_with fail
        refine GK.out.mono ?_
        rintro e w10 ⟨v10, rfl, hb10, _⟩
        have hB10 := under hBr hb10
        clear hb10 hBr GK
        go_wp2_with fail
        go_roundw
        case rel => exact ⟨k + 1, by simp, by omega, by omega, hB10⟩
        case measure => simp [intOf]; omega
      · have B10 := Lib.hid (under B9.out hBr)
        have ik : ¬ (k : Int) < (l.length : Int) + (k1 : Int) := by omega
        clear hBr
        go_wp2_with fail
        go_ret
        exact ⟨rfl, B10.out⟩

set_option maxRecDepth 100000 in
set_option maxHeartbeats 16000000 in
theorem list_bn (b : List Int) (hbl : b.length ≤ 9223372036854775807) (hbb : ∀ z ∈ b, 0 ≤ z ∧ z < 256) (x : List Int) (hx : 60 < x.length ∧ x.length ≤ 9223372036854775807) (hxr : ∀ z ∈ x, -9223372036854775808 ≤ z ∧ z ≤ 9223372036854775807) (t : List Int) (ht : t.length ≤ 30) (htb : ∀ z ∈ t, 0 ≤ z ∧ z < 256) (v v0 vt : Value) (w : World) (h : Reads .u8 w v b) (h0 : Reads .i64 w v0 x) (h2 : Reads .u8 w vt t) (hnil : vt = .slice none 0 0) :
    Calls Try.prog 9 #[v, v0, vt] w (Ret w (.bool true)) := by
  obtain ⟨i0, hi, hz0, hz1, hz2⟩ := info_parts infoU8
  have HH := Lib.hid (fun W (hb : Below w.heap.size w W) => head_any b hbl v W (h.below hb))
  have hl4 : (b.take 400).length ≤ 400 := by simp; omega
  have hlb : ∀ z ∈ b.take 400, 0 ≤ z ∧ z < 256 := fun z hz => hbb z (List.mem_of_mem_take hz)
  generalize b.take 400 = l at *
  obtain ⟨A0, c0, rfl, hc0, hk0⟩ := h0
  subst hnil
  obtain ⟨At, ct, hAt, hct, hkt⟩ := h2
  injection hAt with hAt1 hAt2 hAt3
  have ht0 : t = [] := List.eq_nil_of_length_eq_zero hAt2.symm
  clear hAt1 hAt2 hAt3
  have hm1 : (x.take 60).length ≤ 60 := by simp; omega
  have hml : (x.take 60).length = 60 := by simp; omega
  have hmr : ∀ z ∈ x.take 60, -9223372036854775808 ≤ z ∧ z ≤ 9223372036854775807 := fun z hz => hxr z (List.mem_of_mem_take hz)
  have RX : Hid (Reads .i64 w (.slice A0 60 c0) (x.take 60)) := Lib.hid (by
    have := reads_take (A := A0) (c := c0) ⟨A0, c0, rfl, hc0, hk0⟩ (x.take 60).length (by simp; omega)
    rw [hml] at this
    have e : x.take 60 = x.take 60 := by rfl
    rwa [e] at this)
  have ht1 : (t.take 30).length ≤ 30 := by simp; omega
  have htl : (t.take 30).length = 0 := by rw [ht0]; rfl
  have htr : ∀ z ∈ t.take 30, 0 ≤ z ∧ z < 256 := fun z hz => htb z (List.mem_of_mem_take hz)
  have RT : Hid (Reads .u8 w (.slice none 0 0) (t.take 30)) := Lib.hid (by rw [ht0]; exact Reads.nil)
  have CX := Lib.hid (fun W (hb : Below w.heap.size w W) => cloneI (x.take 60) (by omega) _ W (RX.out.below hb))
  have EI := Lib.hid (fun v1 v2 W (h1 : Reads .i64 W v1 (x.take 60)) (h2 : Reads .i64 W v2 (x.take 60)) => equalI (x.take 60) (x.take 60) (by omega) v1 v2 W h1 h2)
  rw [eqB_true rfl] at EI
  have PR0 := Lib.hid (fun v1 v2 W (h1 : Reads .u8 W v1 l) (h2 : Reads .i64 W v2 (x.take 60)) => putRow_any l (by omega) (x.take 60) (by omega) hmr v1 v2 W h1 h2)
  have PN0 := Lib.hid (fun v2 W (h2 : Reads .i64 W v2 (x.take 60)) => putRow_any [] (by simp) (x.take 60) (by omega) hmr _ v2 W (Reads.nil (k := .u8)) h2)
  rw [List.nil_append] at PN0
  have hD := rowBytes_len hm1 hmr
  have hDb := rowBytes_b (by omega) hmr
  have hPb : ∀ z ∈ l ++ rowBytes (x.take 60) ++ t.take 30, 0 ≤ z ∧ z < 256 := fun z hz' => by
    rcases List.mem_append.1 hz' with hz' | hz'
    · rcases List.mem_append.1 hz' with hz' | hz'
      · exact hlb z hz'
      · exact hDb z hz'
    · exact htr z hz'
  have hPl : (l ++ rowBytes (x.take 60) ++ t.take 30).length ≤ 2000 := by rw [List.length_append, List.length_append]; omega
  have G1 := Lib.hid (fun v W (hr : Reads .u8 W v (l ++ rowBytes (x.take 60) ++ t.take 30)) => getRow_any _ (by omega) hPb l.length (x.take 60).length (by omega) v W hr)
  rw [gotRow_put hm1 hmr] at G1
  have G2 : Hid (1 ≤ (x.take 60).length → ∀ v W, Reads .u8 W v (l ++ rowBytes (x.take 60) ++ t.take 30) → Calls Try.prog 29 #[v, .int .i64 l.length, .int .i64 (((x.take 60).length : Int) - 1)] W (MadeR W ([], 0, 3))) := Lib.hid (fun h1 v W hr => by
    have := getRow_any _ (by omega) hPb l.length (((x.take 60).length : Int) - 1) (by omega) v W hr
    rwa [gotRow_less hm1 h1] at this)
  have G3 : Hid (∀ j, j < (rowBytes (x.take 60)).length → ∀ v W, Reads .u8 W v ((l ++ rowBytes (x.take 60) ++ t.take 30).take (l.length + j)) → Calls Try.prog 29 #[v, .int .i64 l.length, .int .i64 (x.take 60).length] W (MadeR W ([], 0, 6))) := Lib.hid (fun j hj v W hr => by
    have := getRow_any ((l ++ rowBytes (x.take 60) ++ t.take 30).take (l.length + j)) (by rw [List.length_take]; omega) (fun z hz => hPb z (List.mem_of_mem_take hz)) l.length (x.take 60).length (by omega) v W hr
    rwa [gotRow_cut hm1 hmr hj] at this)
  have LA : Hid (∀ (W : World) (gp : Nat), Lie W gp 0 (l ++ rowBytes (x.take 60) ++ t.take 30) → Lie W gp l.length (rowBytes (x.take 60))) := Lib.hid (fun W gp hlie i z hz => by
    have := hlie (l.length + i) z (by rw [List.append_assoc, List.getElem?_append_right (by omega), Nat.add_sub_cancel_left, List.getElem?_append_left (List.getElem?_eq_some_iff.1 hz).1]; exact hz)
    rwa [Nat.zero_add] at this)
  generalize rowBytes (x.take 60) = D at *
  generalize t.take 30 = T at *
  obtain ⟨k1, hk1⟩ : ∃ k, D.length = k := ⟨_, rfl⟩
  rw [hk1] at hD G1 G3
  have HD1 := Lib.hid hk1
  rw [hml] at G1 G2 G3
  rw [show ((60 : Nat) : Int) = 60 from rfl] at G1 G2 G3
  rw [show (60 : Int) - 1 = 59 from rfl] at G2
  have PL : Hid ((l ++ D).length = l.length + k1) := Lib.hid (by simp [hk1])
  have PP : Hid ((l ++ D ++ T).length = l.length + k1) := Lib.hid (by simp [hk1, htl])
  have HTL := Lib.hid htl
  have HML := Lib.hid hml
  have EQ1 := Lib.hid (fun v v2 W (h1 : Reads .u8 W v D) (h2 : Reads .u8 W v2 D) => equalB D D (by omega) v v2 W h1 h2)
  rw [eqB_true rfl] at EQ1
  have SE := Lib.hid (@same_row D k1 hk1 hD.2)
  generalize x.take 60 = ms at *
  have hms := HML.out
  have HT0 : Hid (T = []) := Lib.hid (List.eq_nil_of_length_eq_zero htl)
  clear ht0 ht hct
  clear h hbb hbl hlb hk1 hxr hk0 hmr hDb hkt htr htb hPb hPl hml htl hms
  go_enter Try.func9, Try.ntmps9
  go_wp2_with fail
  refine (wakes_any _).mono ?_
  rintro e w1 ⟨rfl, hb1⟩
  have B1 := Lib.hid hb1
  clear hb1
  go_wp2_with fail
  refine (CX.out _ B1.out).mono ?_
  rintro e w2 ⟨v2, rfl, hb2, ho2⟩
  obtain ⟨A2, c2, rfl⟩ := made_len ho2
  have B2 := Lib.hid (under B1.out hb2)
  have M2 := Lib.hid (reads_own ho2)
  rw [HML.out]
  rw [HML.out] at M2
  clear hb2 ho2 B1
  go_wp2_with fail
  refine (HH.out _ B2.out).mono ?_
  intro e w3 hhead
  obtain ⟨g, cap, rfl, hb3, hg, hcap, hlie, _⟩ := head_parts hhead
  have B3 := Lib.hid (under B2.out hb3)
  have LI3 := Lib.hid hlie.left
  have M3 := Lib.hid (M2.out.below hb3)
  have T3 := Lib.hid (RT.out.below B3.out)
  clear hb3 hhead hlie B2 M2
  go_wp2_with fail
  refine region_keeps (w0 := w3) (L := []) (by kernel_rfl) (⟨Below.refl _ _, trivial⟩) (fun hHeld0 => ?_)
  refine wpAnyH_take (i := 0) (oi := ⟨some 30, _, _, _, _, _⟩) (v := ?_) rfl (by kernel_rfl) (by kernel_rfl) (by kernel_rfl) (fun _ _ _ h => h) (Or.inl ⟨by rfl, ?_⟩) (by assumption) ?_
  rotate_left
  · intro wq hSw; go_simp; (try with_reducible rfl)
  try simp only [Act.put, List.setIfInBounds_toArray, List.set_cons_zero, List.set_cons_succ]
  refine wpAnyH_take (i := 1) (oi := ⟨some 31, _, _, _, _, _⟩) (v := ?_) rfl (by kernel_rfl) (by kernel_rfl) (by kernel_rfl) (fun _ _ _ h => h) (Or.inl ⟨by rfl, ?_⟩) (by assumption) ?_
  rotate_left
  · intro wq hSw; go_simp; (try with_reducible rfl)
  try simp only [Act.put, List.setIfInBounds_toArray, List.set_cons_zero, List.set_cons_succ]
  refine wpAnyH_take (i := 3) (oi := ⟨some 33, _, _, _, _, _⟩) (v := ?_) rfl (by kernel_rfl) (by kernel_rfl) (by kernel_rfl) (fun _ _ _ h => h) (Or.inl ⟨by rfl, ?_⟩) (by assumption) ?_
  rotate_left
  · intro wq hSw; go_simp; (try with_reducible rfl)
  try simp only [Act.put, List.setIfInBounds_toArray, List.set_cons_zero, List.set_cons_succ]
  refine wpAnyH_take (i := 4) (oi := ⟨some 34, _, _, _, _, _⟩) (v := ?_) rfl (by kernel_rfl) (by kernel_rfl) (by kernel_rfl) (fun _ _ _ h => h) (Or.inl ⟨by rfl, ?_⟩) (by assumption) ?_
  rotate_left
  · intro wq hSw; go_simp; (try with_reducible rfl)
  try simp only [Act.put, List.setIfInBounds_toArray, List.set_cons_zero, List.set_cons_succ]
  refine wpAnyH_take (i := 5) (oi := ⟨some 35, _, _, _, _, _⟩) (v := ?_) rfl (by kernel_rfl) (by kernel_rfl) (by kernel_rfl) (fun _ _ _ h => h) (Or.inl ⟨by rfl, ?_⟩) (by assumption) ?_
  rotate_left
  · intro wq hSw; go_simp; (try with_reducible rfl)
  try simp only [Act.put, List.setIfInBounds_toArray, List.set_cons_zero, List.set_cons_succ]
  refine wpAnyH_take (i := 6) (oi := ⟨some 36, _, _, _, _, _⟩) (v := ?_) rfl (by kernel_rfl) (by kernel_rfl) (by kernel_rfl) (fun _ _ _ h => h) (Or.inl ⟨by rfl, ?_⟩) (by assumption) ?_
  rotate_left
  · intro wq hSw; go_simp; (try with_reducible rfl)
  try simp only [Act.put, List.setIfInBounds_toArray, List.set_cons_zero, List.set_cons_succ]
  refine wpAnyH_take (i := 7) (oi := ⟨some 37, _, _, _, _, _⟩) (v := ?_) rfl (by kernel_rfl) (by kernel_rfl) (by kernel_rfl) (fun _ _ _ h => h) (Or.inl ⟨by rfl, ?_⟩) (by assumption) ?_
  rotate_left
  · intro wq hSw; go_simp; (try with_reducible rfl)
  try simp only [Act.put, List.setIfInBounds_toArray, List.set_cons_zero, List.set_cons_succ]
  refine wpAnyH_ready (rs := [2]) (by kernel_rfl) (by simp) ?_
  refine AllReadyH.cons (o := ⟨some 32, _, _, _, _, _⟩) rfl (fun K hK => ?_) AllReadyH.nil
  go_simp
  (with_reducible refine (PR0.out _ _ _ (reads_lie (c := cap) (LI3.out.below hg (Keeps.low (by assumption))) (Nat.lt_of_lt_of_le hg (Keeps.low (by assumption)).size) (by omega)) (M3.out.below (Keeps.low (by assumption)))).mono ?_); rintro e w4 ⟨v4, rfl, hb, ho⟩; have HO4 : Hid (w4.ownsRow w3.heap.size 5 1 v4 (l ++ D).length ((l ++ D).map (Value.int .u8))) := Lib.hid ho; clear ho
  refine hK.out _ _ (hHeld0.next hb) (fun hHeld1 => ?_)
  clear hK K
  try clear hb
  try simp only [Act.put, List.setIfInBounds_toArray, List.set_cons_zero, List.set_cons_succ]
  refine wpAnyH_ready (rs := [8]) (by kernel_rfl) (by simp) ?_
  refine AllReadyH.cons (o := ⟨some 38, _, _, _, _, _⟩) rfl (fun K hK => ?_) AllReadyH.nil
  (refine if_wanted rfl ?_; refine wp_append_none (.tmp 32) (.tmp 37) 22 rfl w3.heap.size 5 i0 1 Try.underlying22 hi v4 _ _ rfl HO4.out rfl ?_)
  refine hK.out _ _ (hHeld1) (fun hHeld2 => ?_)
  clear hK K
  try clear hb
  try simp only [Act.put, List.setIfInBounds_toArray, List.set_cons_zero, List.set_cons_succ]
  refine wpAnyH_take (i := 9) (oi := ⟨some 9, _, _, _, _, _⟩) (v := ?_) rfl (by kernel_rfl) (by kernel_rfl) (by kernel_rfl) (fun _ _ _ h => h) (Or.inl ⟨by rfl, ?_⟩) (by assumption) ?_
  rotate_left
  · intro wq hSw; go_simp; (try with_reducible rfl)
  try simp only [Act.put, List.setIfInBounds_toArray, List.set_cons_zero, List.set_cons_succ]
  refine wpAnyH_done (by kernel_rfl) ?_ _
  have hHeld := hHeld2
  obtain ⟨w5, hw5⟩ : ∃ y, y = w4 := ⟨_, rfl⟩
  obtain ⟨v5, hv5⟩ : ∃ y, y = v4 := ⟨_, rfl⟩
  have RO : Hid (w5.ownsRow w3.heap.size 5 1 v5 (l ++ D ++ T).length ((l ++ D ++ T).map (Value.int .u8))) := Lib.hid (by rw [HT0.out, List.append_nil, hw5, hv5]; exact HO4.out)
  subst hw5
  subst hv5
  have hHeld5 := hHeld
  clear HO4 hHeld
  obtain ⟨gp, cp, rfl, hcp, i5, lip, _, _⟩ := owns_parts RO.out PP.out (by omega)
  have B5 := Lib.hid (under B3.out hHeld5.1)
  have M5 := Lib.hid (M3.out.below hHeld5.1)
  have P5 := Lib.hid lip
  clear hHeld5 B3 M3 LI3 T3 RO lip
  go_wp2_with fail
  refine (G1.out _ _ (by rw [← PP.out]; exact reads_lie P5.out i5 (by rw [PP.out]; omega))).mono ?_
  rintro e w6 ⟨v6, rfl, hb6, ho6⟩
  have B6 := Lib.hid (under B5.out hb6)
  have M6 := Lib.hid (M5.out.below hb6)
  have P6 := Lib.hid (P5.out.below i5 hb6)
  have R6 := Lib.hid (reads_own (l := ms) ho6)
  have i6 : gp < w6.heap.size := Nat.lt_of_lt_of_le i5 hb6.size
  clear hb6 ho6 B5 M5 P5 i5
  have s1 : (0 : Int) ≤ (l.length : Int) + (k1 : Int) := by omega
  have s2 : (l.length : Int) + (k1 : Int) ≤ (cp : Int) := by omega
  have s4 : ¬ cp = l.length := by omega
  have s3 : ((l.length : Int) + (k1 : Int)).toNat = l.length + k1 := by omega
  go_wp2_with fail
  refine region_keeps (w0 := w6) (L := []) (by kernel_rfl) (⟨Below.refl _ _, trivial⟩) (fun hHeld0 => ?_)
  refine wpAnyH_take (i := 0) (oi := ⟨some 49, _, _, _, _, _⟩) (v := ?_) rfl (by kernel_rfl) (by kernel_rfl) (by kernel_rfl) (fun _ _ _ h => h) (Or.inl ⟨by rfl, ?_⟩) (by assumption) ?_
  rotate_left
  · intro wq hSw; go_simp; (try with_reducible rfl)
  try simp only [Act.put, List.setIfInBounds_toArray, List.set_cons_zero, List.set_cons_succ]
  refine wpAnyH_take (i := 1) (oi := ⟨some 50, _, _, _, _, _⟩) (v := ?_) rfl (by kernel_rfl) (by kernel_rfl) (by kernel_rfl) (fun _ _ _ h => h) (Or.inl ⟨by rfl, ?_⟩) (by assumption) ?_
  rotate_left
  · intro wq hSw; go_simp; (try with_reducible rfl)
  try simp only [Act.put, List.setIfInBounds_toArray, List.set_cons_zero, List.set_cons_succ]
  refine wpAnyH_take (i := 2) (oi := ⟨some 51, _, _, _, _, _⟩) (v := ?_) rfl (by kernel_rfl) (by kernel_rfl) (by kernel_rfl) (fun _ _ _ h => h) (Or.inl ⟨by rfl, ?_⟩) (by assumption) ?_
  rotate_left
  · intro wq hSw; go_simp; (try with_reducible rfl)
  try simp only [Act.put, List.setIfInBounds_toArray, List.set_cons_zero, List.set_cons_succ]
  refine wpAnyH_take (i := 3) (oi := ⟨some 52, _, _, _, _, _⟩) (v := ?_) rfl (by kernel_rfl) (by kernel_rfl) (by kernel_rfl) (fun _ _ _ h => h) (Or.inl ⟨by rfl, ?_⟩) (by assumption) ?_
  rotate_left
  · intro wq hSw; go_simp; (try with_reducible rfl)
  try simp only [Act.put, List.setIfInBounds_toArray, List.set_cons_zero, List.set_cons_succ]
  refine wpAnyH_take (i := 4) (oi := ⟨some 53, _, _, _, _, _⟩) (v := ?_) rfl (by kernel_rfl) (by kernel_rfl) (by kernel_rfl) (fun _ _ _ h => h) (Or.inl ⟨by rfl, ?_⟩) (by assumption) ?_
  rotate_left
  · intro wq hSw; go_simp; (try with_reducible rfl)
  try simp only [Act.put, List.setIfInBounds_toArray, List.set_cons_zero, List.set_cons_succ]
  refine wpAnyH_ready (rs := [5]) (by kernel_rfl) (by simp) ?_
  refine AllReadyH.cons (o := ⟨some 54, _, _, _, _, _⟩) rfl (fun K hK => ?_) AllReadyH.nil
  go_simp
  (first | ((with_reducible refine (EI.out _ _ _ (R6.out.below (Keeps.low (by assumption))) (M6.out.below (Keeps.low (by assumption)))).mono ?_); rintro e w7 ⟨rfl, hb⟩) | ((with_reducible refine (PN0.out _ _ (R6.out.below (Keeps.low (by assumption)))).mono ?_); rintro e w7 ⟨v7, rfl, hb, ho⟩; obtain ⟨g7, c7, rfl, hc7, hg7, li7, _, _⟩ := owns_parts ho HD1.out (by omega); have L7 := Lib.hid li7; clear ho li7) | ((with_reducible refine (SE.out g7 c7 gp l.length (cp - l.length) _ L7.out hg7 hc7 (LA.out _ _ (P6.out.below i6 (Keeps.low (by assumption)))) (Nat.lt_of_lt_of_le i6 (Keeps.low (by assumption)).size) (by omega)).mono ?_); rintro e w8 ⟨rfl, hb⟩))
  refine hK.out _ _ (hHeld0.next hb) (fun hHeld1 => ?_)
  clear hK K
  try clear hb
  try simp only [Act.put, List.setIfInBounds_toArray, List.set_cons_zero, List.set_cons_succ]
  refine wpAnyH_take (i := 6) (oi := ⟨some 55, _, _, _, _, _⟩) (v := ?_) rfl (by kernel_rfl) (by kernel_rfl) (by kernel_rfl) (fun _ _ _ h => h) (Or.inl ⟨by rfl, ?_⟩) (by assumption) ?_
  rotate_left
  · intro wq hSw; go_simp; (try with_reducible rfl)
  try simp only [Act.put, List.setIfInBounds_toArray, List.set_cons_zero, List.set_cons_succ]
  refine wpAnyH_take (i := 7) (oi := ⟨some 56, _, _, _, _, _⟩) (v := ?_) rfl (by kernel_rfl) (by kernel_rfl) (by kernel_rfl) (fun _ _ _ h => h) (Or.inl ⟨by rfl, ?_⟩) (by assumption) ?_
  rotate_left
  · intro wq hSw; go_simp; (try with_reducible rfl)
  try simp only [Act.put, List.setIfInBounds_toArray, List.set_cons_zero, List.set_cons_succ]
  refine wpAnyH_take (i := 8) (oi := ⟨some 57, _, _, _, _, _⟩) (v := ?_) rfl (by kernel_rfl) (by kernel_rfl) (by kernel_rfl) (fun _ _ _ h => h) (Or.inl ⟨by rfl, ?_⟩) (by assumption) ?_
  rotate_left
  · intro wq hSw; go_simp; (try with_reducible rfl)
  try simp only [Act.put, List.setIfInBounds_toArray, List.set_cons_zero, List.set_cons_succ]
  refine wpAnyH_take (i := 9) (oi := ⟨some 58, _, _, _, _, _⟩) (v := ?_) rfl (by kernel_rfl) (by kernel_rfl) (by kernel_rfl) (fun _ _ _ h => h) (Or.inl ⟨by rfl, ?_⟩) (by assumption) ?_
  rotate_left
  · intro wq hSw; go_simp; (try with_reducible rfl)
  try simp only [Act.put, List.setIfInBounds_toArray, List.set_cons_zero, List.set_cons_succ]
  refine wpAnyH_take (i := 11) (oi := ⟨some 60, _, _, _, _, _⟩) (v := ?_) rfl (by kernel_rfl) (by kernel_rfl) (by kernel_rfl) (fun _ _ _ h => h) (Or.inl ⟨by rfl, ?_⟩) (by assumption) ?_
  rotate_left
  · intro wq hSw; go_simp; (try with_reducible rfl)
  try simp only [Act.put, List.setIfInBounds_toArray, List.set_cons_zero, List.set_cons_succ]
  refine wpAnyH_take (i := 12) (oi := ⟨some 61, _, _, _, _, _⟩) (v := ?_) rfl (by kernel_rfl) (by kernel_rfl) (by kernel_rfl) (fun _ _ _ h => h) (Or.inl ⟨by rfl, ?_⟩) (by assumption) ?_
  rotate_left
  · intro wq hSw; go_simp; (try with_reducible rfl)
  try simp only [Act.put, List.setIfInBounds_toArray, List.set_cons_zero, List.set_cons_succ]
  refine wpAnyH_take (i := 13) (oi := ⟨some 62, _, _, _, _, _⟩) (v := ?_) rfl (by kernel_rfl) (by kernel_rfl) (by kernel_rfl) (fun _ _ _ h => h) (Or.inl ⟨by rfl, ?_⟩) (by assumption) ?_
  rotate_left
  · intro wq hSw; go_simp; (try with_reducible rfl)
  try simp only [Act.put, List.setIfInBounds_toArray, List.set_cons_zero, List.set_cons_succ]
  refine wpAnyH_take (i := 14) (oi := ⟨some 63, _, _, _, _, _⟩) (v := ?_) rfl (by kernel_rfl) (by kernel_rfl) (by kernel_rfl) (fun _ _ _ h => h) (Or.inl ⟨by rfl, ?_⟩) (by assumption) ?_
  rotate_left
  · intro wq hSw; go_simp; (try with_reducible rfl)
  try simp only [Act.put, List.setIfInBounds_toArray, List.set_cons_zero, List.set_cons_succ]
  refine wpAnyH_take (i := 15) (oi := ⟨some 64, _, _, _, _, _⟩) (v := ?_) rfl (by kernel_rfl) (by kernel_rfl) (by kernel_rfl) (fun _ _ _ h => h) (Or.inl ⟨by rfl, ?_⟩) (by assumption) ?_
  rotate_left
  · intro wq hSw; go_simp; (try with_reducible rfl)
  try simp only [Act.put, List.setIfInBounds_toArray, List.set_cons_zero, List.set_cons_succ]
  refine wpAnyH_ready (rs := [10]) (by kernel_rfl) (by simp) ?_
  refine AllReadyH.cons (o := ⟨some 59, _, _, _, _, _⟩) rfl (fun K hK => ?_) AllReadyH.nil
  go_simp
  (first | ((with_reducible refine (EI.out _ _ _ (R6.out.below (Keeps.low (by assumption))) (M6.out.below (Keeps.low (by assumption)))).mono ?_); rintro e w7 ⟨rfl, hb⟩) | ((with_reducible refine (PN0.out _ _ (R6.out.below (Keeps.low (by assumption)))).mono ?_); rintro e w7 ⟨v7, rfl, hb, ho⟩; obtain ⟨g7, c7, rfl, hc7, hg7, li7, _, _⟩ := owns_parts ho HD1.out (by omega); have L7 := Lib.hid li7; clear ho li7) | ((with_reducible refine (SE.out g7 c7 gp l.length (cp - l.length) _ L7.out hg7 hc7 (LA.out _ _ (P6.out.below i6 (Keeps.low (by assumption)))) (Nat.lt_of_lt_of_le i6 (Keeps.low (by assumption)).size) (by omega)).mono ?_); rintro e w8 ⟨rfl, hb⟩))
  refine hK.out _ _ (hHeld1.next hb) (fun hHeld2 => ?_)
  clear hK K
  try clear hb
  try simp only [Act.put, List.setIfInBounds_toArray, List.set_cons_zero, List.set_cons_succ]
  refine wpAnyH_ready (rs := [16]) (by kernel_rfl) (by simp) ?_
  refine AllReadyH.cons (o := ⟨some 65, _, _, _, _, _⟩) rfl (fun K hK => ?_) AllReadyH.nil
  go_simp
  (first | ((with_reducible refine (EI.out _ _ _ (R6.out.below (Keeps.low (by assumption))) (M6.out.below (Keeps.low (by assumption)))).mono ?_); rintro e w7 ⟨rfl, hb⟩) | ((with_reducible refine (PN0.out _ _ (R6.out.below (Keeps.low (by assumption)))).mono ?_); rintro e w7 ⟨v7, rfl, hb, ho⟩; obtain ⟨g7, c7, rfl, hc7, hg7, li7, _, _⟩ := owns_parts ho HD1.out (by omega); have L7 := Lib.hid li7; clear ho li7) | ((with_reducible refine (SE.out g7 c7 gp l.length (cp - l.length) _ L7.out hg7 hc7 (LA.out _ _ (P6.out.below i6 (Keeps.low (by assumption)))) (Nat.lt_of_lt_of_le i6 (Keeps.low (by assumption)).size) (by omega)).mono ?_); rintro e w8 ⟨rfl, hb⟩))
  refine hK.out _ _ (hHeld2.next hb) (fun hHeld3 => ?_)
  clear hK K
  try clear hb
  try simp only [Act.put, List.setIfInBounds_toArray, List.set_cons_zero, List.set_cons_succ]
  refine wpAnyH_take (i := 17) (oi := ⟨some 66, _, _, _, _, _⟩) (v := ?_) rfl (by kernel_rfl) (by kernel_rfl) (by kernel_rfl) (fun _ _ _ h => h) (Or.inl ⟨by rfl, ?_⟩) (by assumption) ?_
  rotate_left
  · intro wq hSw; go_simp; (try with_reducible rfl)
  try simp only [Act.put, List.setIfInBounds_toArray, List.set_cons_zero, List.set_cons_succ]
  refine wpAnyH_take (i := 18) (oi := ⟨some 67, _, _, _, _, _⟩) (v := ?_) rfl (by kernel_rfl) (by kernel_rfl) (by kernel_rfl) (fun _ _ _ h => h) (Or.inl ⟨by rfl, ?_⟩) (by assumption) ?_
  rotate_left
  · intro wq hSw; go_simp; (try with_reducible rfl)
  try simp only [Act.put, List.setIfInBounds_toArray, List.set_cons_zero, List.set_cons_succ]
  refine wpAnyH_done (by kernel_rfl) ?_ _
  have hHeld := hHeld3
  clear s1 s2 s3 s4
  have B8 := Lib.hid (under B6.out hHeld.1)
  have P8 := Lib.hid (P6.out.below i6 hHeld.1)
  have i8 : gp < w8.heap.size := Nat.lt_of_lt_of_le i6 hHeld.1.size
  clear hHeld B6 M6 P6 R6 i6 L7 hg7 hc7
  go_wp2_with fail
  refine (G2.out (by omega) _ _ (by rw [← PP.out]; exact reads_lie P8.out i8 (by rw [PP.out]; omega))).mono ?_
  rintro e w9 ⟨v9, rfl, hb9, _⟩
  have B9 := Lib.hid (under B8.out hb9)
  have P9 := Lib.hid (P8.out.below i8 hb9)
  have i9 : gp < w9.heap.size := Nat.lt_of_lt_of_le i8 hb9.size
  clear hb9 B8 P8 i8
  go_wp2_with fail
  go_loopw [16] (fun i wr => ∃ k : Nat, i = .int .i64 k ∧ l.length ≤ k ∧ k ≤ l.length + k1 ∧ Below w9.heap.size w9 wr) (fun i _ => l.length + k1 - (intOf i).toNat)
  case atStart => exact ⟨l.length, rfl, by omega, by omega, Below.refl _ _⟩
  case round =>
    obtain ⟨k, rfl, hk1, hk2, hBr⟩ := hrel
    by_cases gk : k < l.length + k1
    · have GK := Lib.hid (G3.out (k - l.length) (by omega) (.slice (some ⟨gp, 0, none⟩) k cp) wr (by
        have := reads_take (reads_lie (c := cp) (P9.out.below i9 hBr) (Nat.lt_of_lt_of_le i9 hBr.size) (by rw [PP.out]; omega)) k (by rw [PP.out]; omega)
        rwa [show l.length + (k - l.length) = k from by omega]))
      have ik : (k : Int) < (l.length : Int) + (k1 : Int) := by omega
      go_wp2_with fail
      refine GK.out.mono ?_
      rintro e w10 ⟨v10, rfl, hb10, _⟩
      have hB10 := under hBr hb10
      clear hb10 hBr GK
      go_wp2_with fail
      go_roundw
      case rel => exact ⟨k + 1, by simp, by omega, by omega, hB10⟩
      case measure => simp [intOf]; omega
    · have B10 := Lib.hid (under B9.out hBr)
      have ik : ¬ (k : Int) < (l.length : Int) + (k1 : Int) := by omega
      clear hBr
      go_wp2_with fail
      go_ret
      exact ⟨rfl, B10.out⟩

theorem list_any (b : List Int) (hbl : b.length ≤ 9223372036854775807) (hbb : ∀ z ∈ b, 0 ≤ z ∧ z < 256) (x : List Int) (hx : x.length ≤ 9223372036854775807) (hxr : ∀ z ∈ x, -9223372036854775808 ≤ z ∧ z ≤ 9223372036854775807) (t : List Int) (ht : t.length ≤ 9223372036854775807) (htb : ∀ z ∈ t, 0 ≤ z ∧ z < 256) (v v0 vt : Value) (w : World) (h : Reads .u8 w v b) (h0 : Reads .i64 w v0 x) (h2 : Reads .u8 w vt t) (hnil : ∀ n c, vt = .slice none n c → n = 0 ∧ c = 0) :
    Calls Try.prog 9 #[v, v0, vt] w (Ret w (.bool true)) := by
  by_cases g0 : vt = .slice none 0 0
  · have t0 : t.length ≤ 30 := by
      obtain ⟨A, c, e, _, _⟩ := h2
      rw [g0] at e
      injection e with _ e2 _
      omega
    by_cases gx : x.length ≤ 60
    · exact list_sn b hbl hbb x gx hxr t t0 htb v v0 vt w h h0 h2 g0
    · exact list_bn b hbl hbb x ⟨by omega, hx⟩ hxr t t0 htb v v0 vt w h h0 h2 g0
  · have hn : ∀ n c, vt ≠ .slice none n c := fun n c e => g0 (by obtain ⟨rfl, rfl⟩ := hnil n c e; exact e)
    by_cases gx : x.length ≤ 60 <;> by_cases gt : t.length ≤ 30
    · exact list_ss b hbl hbb x gx hxr t gt htb v v0 vt w h h0 h2 hn
    · exact list_sb b hbl hbb x gx hxr t ⟨by omega, ht⟩ htb v v0 vt w h h0 h2 hn
    · exact list_bs b hbl hbb x ⟨by omega, hx⟩ hxr t gt htb v v0 vt w h h0 h2 hn
    · exact list_bb b hbl hbb x ⟨by omega, hx⟩ hxr t ⟨by omega, ht⟩ htb v v0 vt w h h0 h2 hn
end Go.Proofs.Ytahfopednhmbiaa
