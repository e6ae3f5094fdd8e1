/-
  Layer 7: runs: the place of a time. Conditions: those written at each fact.
-/
import Derived.Test.YtlfjmdfplmdmgaaRnQ
import Derived.WalkMore
namespace Go.Proofs.Ytlfjmdfplmdmgaa
open Go.RowKit Go.Shelf
attribute [local go_sem] Oper.semAt_some

/-- The place of a time among rising ones, from place k on. -/
def findF : Nat → List Int → Int → Option Nat
  | _, [], _ => none
  | k, x :: l, t => if x = t then some k else if t < x then none else findF (k + 1) l t
theorem find_hit : ∀ {l : List Int} {k : Nat} {pre : List (Int × Int)} {z : Int × Int} {t : Int}, (pre ++ [z]) <+: numR k l → (∀ y ∈ pre, y.2 < t) → z.2 = t → ∃ n, findF k l t = some n ∧ z.1 = (n : Int)
  | [], k, pre, z, t, h, _, _ => by
    have := h.length_le
    simp [numR] at this
  | x :: l, k, [], z, t, h, _, hz => by
    simp only [numR, List.nil_append, List.cons_prefix_cons] at h
    obtain ⟨rfl, _⟩ := h
    exact ⟨k, by simp only at hz; rw [findF, if_pos hz], rfl⟩
  | x :: l, k, y :: pre, z, t, h, hp, hz => by
    simp only [numR, List.cons_append, List.cons_prefix_cons] at h
    obtain ⟨rfl, h⟩ := h
    have hy := hp _ (List.mem_cons_self ..)
    simp only at hy
    rw [findF, if_neg (by omega), if_neg (by omega)]
    exact find_hit h (fun y' hy' => hp y' (List.mem_cons_of_mem _ hy')) hz
theorem find_past : ∀ {l : List Int} {k : Nat} {pre : List (Int × Int)} {z : Int × Int} {t : Int}, (pre ++ [z]) <+: numR k l → (∀ y ∈ pre, y.2 < t) → t < z.2 → findF k l t = none
  | [], k, pre, z, t, h, _, _ => rfl
  | x :: l, k, [], z, t, h, _, hz => by
    simp only [numR, List.nil_append, List.cons_prefix_cons] at h
    obtain ⟨rfl, _⟩ := h
    simp only at hz
    rw [findF, if_neg (by omega), if_pos hz]
  | x :: l, k, y :: pre, z, t, h, hp, hz => by
    simp only [numR, List.cons_append, List.cons_prefix_cons] at h
    obtain ⟨rfl, h⟩ := h
    have hy := hp _ (List.mem_cons_self ..)
    simp only at hy
    rw [findF, if_neg (by omega), if_neg (by omega)]
    exact find_past h (fun y' hy' => hp y' (List.mem_cons_of_mem _ hy')) hz
theorem find_all : ∀ {l : List Int} {k : Nat} {t : Int}, (∀ y ∈ numR k l, y.2 < t) → findF k l t = none
  | [], _, _, _ => rfl
  | x :: l, k, t, h => by
    have hy := h _ (List.mem_cons_self ..)
    simp only at hy
    rw [findF, if_neg (by omega), if_neg (by omega)]
    exact find_all (fun y' hy' => h y' (List.mem_cons_of_mem _ hy'))
theorem boxed_grown {W W' : World} {row : Option Nat} {B : Nat} {t : TypeId} {v : Value} (h : Boxed W B t v) (hgr : W.grownBy W' row) (hr : ∀ r, row = some r → ∃ o : Obj, W.heap[r]? = some o ∧ o.isCells = false) : Boxed W' B t v := cells_kept hgr hr h rfl
def XN : World → Nat → Prop := fun _ _ => False

def AllLt (t : Int) (pre : List (Int × Int)) : Prop := ∀ y ∈ pre, y.2 < t
/-- How the loop is left early. -/
def LeftF (w : World) (t : Int) (c : Code) (pre : List (Int × Int)) (W : World) : Prop :=
  Below w.heap.size w W ∧ ∃ p z, pre = p ++ [z] ∧ (∀ y ∈ p, y.2 < t) ∧ ((c = .ret ∧ z.2 = t ∧ Boxed W (w.heap.size + 1) 3 (.int .i64 z.1)) ∨ (c = .exit 0 ∧ t < z.2))
set_option maxRecDepth 100000 in
set_option maxHeartbeats 2000000 in
theorem find_any (l : List Rn) (hok : okB l = true) (t : Int) (v : Value) (w : World) (h : ReadsR w v l) :
    Calls Try.prog 54 #[v, .int .i64 t] w (Throws w (fun x _ => ∃ n, findF 0 (timesR l) t = some n ∧ x = .int .i64 n) (fun code => findF 0 (timesR l) t = none ∧ code = 4)) := by
  obtain ⟨hne, hR, hT, hl2⟩ := okB_facts hok
  have hTL := timesR_length (l := l) (fun r hr => by have := (hR r hr).1; omega)
  have hr := h
  obtain ⟨A, c, rfl, hc, hk⟩ := h
  have hlast : ∀ (p : List (Int × Int)) (z : Int × Int), (p ++ [z]) <+: numR 0 (timesR l) → (∀ y ∈ p, y.2 < t) → (z.2 = t → ∃ n, findF 0 (timesR l) t = some n ∧ z.1 = (n : Int)) ∧ (t < z.2 → findF 0 (timesR l) t = none) := fun p z h1 h2 => ⟨fun h3 => find_hit h1 h2 h3, fun h3 => find_past h1 h2 h3⟩
  have HLAST := Lib.hid hlast
  have HALL : Hid (AllLt t (numR 0 (timesR l)) → findF 0 (timesR l) t = none) := Lib.hid find_all
  clear hlast
  generalize findF 0 (timesR l) t = F at *
  refine calls_marks Try.func54 rfl ?_
  simp only [Try.ntmps54, List.size_toArray, List.length_cons, List.length_nil, Nat.reduceAdd, Nat.reduceSub, Array.replicate_succ, Array.replicate_zero, List.push_toArray, List.append_toArray, List.nil_append, List.cons_append]
  go_wp2_with (first | go_step3 | (go_at_call 39; refine (all_any _ _ _ _ _ rfl).mono ?_; rintro e w' ⟨rfl, rfl⟩))
  obtain ⟨b1, b2, b3, b4⟩ := boxes3 w 2 3 22 (.int .i64 t) (.int .i64 0) (.slice A l.length c)
  obtain ⟨W2, hW2⟩ : ∃ W2, W2 = (((w.alloc (.cells #[.int .i64 t] 2)).alloc (.cells #[.int .i64 0] 3)).alloc (.cells #[.slice A l.length c] 22)) := ⟨_, rfl⟩
  rw [← hW2] at b1 b2 b3 b4 ⊢
  have hs2 : W2.heap.size = w.heap.size + 3 := by rw [hW2]; simp
  have hXN : Hangs XN w.heap.size := fun _ _ _ _ h => h
  have hseq := all1_stops (α := Int × Int) id (numR 0 (timesR l)) XN w.heap.size hXN l (by omega) hR (List.map_id _) (by rw [numR_length]; omega) A c (w.heap.size + 2) W2 (by omega) ⟨hr.below b4, fun _ _ _ _ h => h.elim, fun _ h => h.elim⟩ b3
  clear hW2 hr hk hR
  generalize numR 0 (timesR l) = full at *
  refine wp_rangeC (X := XN) (b := w.heap.size) hXN (by omega) (gf := 66) (lb := #[.pointer (some ⟨w.heap.size + 1 + 1, 0, none⟩)]) rfl (enters_of Try.func66 (by kernel_rfl) rfl)
    hseq (fun _ => rfl)
    (fun pre W' => Boxed W' w.heap.size 2 (.int .i64 t) ∧ Boxed W' (w.heap.size + 1) 3 (.int .i64 0) ∧ Below w.heap.size w W' ∧ Hid (AllLt t pre)) (LeftF w t)
    ?oI ?oIx ⟨b1, b2, b4, Lib.hid (fun y hy => by simp at hy)⟩
    (fun d => { tmps := #[Value.slice A l.length c, Value.int .i64 t, undef, Value.pointer (some ⟨w.heap.size, 0, none⟩), Value.pointer (some ⟨w.heap.size + 1, 0, none⟩), .int .i64 d.1, .int .i64 d.2, Value.slice A l.length c, Value.func (Fn.func 66) #[] #[Value.pointer (some ⟨w.heap.size + 1 + 1, 0, none⟩)], .int .i64 d.1, .int .i64 d.2, undef, undef, undef, undef, undef, undef, undef, undef, undef, undef], defers := [] }) ?assign ?body ?done ?stop
  case oI =>
    intro pre W1 W1' row ⟨h1, h2, h3, h4⟩ hgr hr
    have hr2 : ∀ r, row = some r → ∃ o : Obj, W1.heap[r]? = some o ∧ o.isCells = false := fun r e => (hr r e).2
    exact ⟨boxed_grown h1 hgr hr2, boxed_grown h2 hgr hr2, below_grown (C := W2.heap.size) b4.size h3 hgr (fun r e => (hr r e).1), h4⟩
  case oIx =>
    intro c' pre W1 W1' row ⟨h1, p, z, h2, h3, h4⟩ hgr hr
    have hr2 : ∀ r, row = some r → ∃ o : Obj, W1.heap[r]? = some o ∧ o.isCells = false := fun r e => (hr r e).2
    refine ⟨below_grown (C := W2.heap.size) b4.size h1 hgr (fun r e => (hr r e).1), p, z, h2, h3, ?_⟩
    rcases h4 with ⟨e1, e2, e3⟩ | h4
    · exact .inl ⟨e1, e2, boxed_grown e3 hgr hr2⟩
    · exact .inr h4
  case assign =>
    intro l' d W K hK
    gi_wp2
    simpa using hK
  case body =>
    rintro l' pre ⟨p, x⟩ W1 ⟨h1, h2, h3, h4⟩ hlt
    have hc1 := h1.cell
    have hc2 := h2.cell
    have hf2 := h2.frozen
    have H2 := Lib.hid h2
    have H1 := Lib.hid h1
    have H3 := Lib.hid h3
    clear h1 h2 h3 hseq b1 b2 b3 b4 hlt
    by_cases g1 : x = t
    · subst g1
      gi_wp2
      exact ⟨(KeepsOthers.setCell _ _ _).from _, H3.out.setCell (p := ⟨w.heap.size + 1, 0, none⟩) (by simp) _, pre, (p, x), rfl, h4.out, .inl ⟨rfl, rfl, H2.out.set _⟩⟩
    · have e1 : (x == t) = false := beq_eq_false_iff_ne.2 g1
      by_cases g2 : t < x
      · gi_wp2
        exact ⟨KeepsFrom.refl _ _, H3.out, pre, (p, x), rfl, h4.out, .inr ⟨rfl, g2⟩⟩
      · have g3 : x ≤ t := by omega
        have h5 : Hid (AllLt t (pre ++ [(p, x)])) := Lib.hid (fun y hy => by
          rcases List.mem_append.1 hy with hy | hy
          · exact h4.out y hy
          · rcases List.mem_singleton.1 hy with rfl
            simp only
            omega)
        gi_wp2
        exact ⟨KeepsFrom.refl _ _, ⟨Nat.le_refl _, fun _ h => .inl h, fun _ _ h _ _ => h⟩, H1.out, H2.out, H3.out, h5⟩
  case done =>
    rintro D ys W1 hD rfl ⟨h1, h2, h3, h4⟩ hK
    have E : Hid (F = none) := Lib.hid (HALL.out h4.out)
    clear hseq h1 h2 h4 HLAST HALL
    go_wp2_with fail
    refine ⟨by simp, .inl ⟨_, _, rfl, run_takeDeferred hK, ?_⟩⟩
    exact ⟨below_grown (C := W2.heap.size) b4.size h3 (grownBy_putObj' W1 D _) (fun r e => by cases e; exact hD), .inr ⟨4, rfl, E.out, rfl⟩⟩
  case stop =>
    rintro D c' pre W1 hD hpre ⟨h1, p, z, h2, h3, h4⟩ hK
    subst h2
    obtain ⟨k1, k2⟩ := HLAST.out p z hpre h3
    rcases h4 with ⟨rfl, e2, e3⟩ | ⟨rfl, e2⟩
    · obtain ⟨n, e4, e5⟩ := k1 e2
      have hc3 := e3.cell
      have E := Lib.hid e4
      have E5 := Lib.hid e5
      have hbx := boxed_grown e3 (grownBy_putObj' W1 D (.deferred none)) (fun r e => by cases e; exact ⟨_, hK, rfl⟩)
      have hc4 := hbx.cell
      clear hseq k1 k2 e4 e5 HLAST HALL
      go_wp2_with fail
      refine ⟨by simp, .inl ⟨_, _, rfl, run_takeDeferred hK, ?_⟩⟩
      refine ⟨.int .i64 z.1, by simp [results, Try.results54, go_sem, hc4], below_grown (C := W2.heap.size) b4.size h1 (grownBy_putObj' W1 D _) (fun r e => by cases e; exact hD), .inl ⟨_, rfl, n, E.out, by rw [E5.out]⟩⟩
    · have E : Hid (F = none) := Lib.hid (k2 e2)
      clear hseq k1 k2 HLAST HALL
      go_wp2_with fail
      refine ⟨by simp, .inl ⟨_, _, rfl, run_takeDeferred hK, ?_⟩⟩
      exact ⟨below_grown (C := W2.heap.size) b4.size h1 (grownBy_putObj' W1 D _) (fun r e => by cases e; exact hD), .inr ⟨4, rfl, E.out, rfl⟩⟩
end Go.Proofs.Ytlfjmdfplmdmgaa
