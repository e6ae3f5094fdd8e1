/-
  The document's own answers for layer 2: bytes, signs. Conditions: those written at each fact.
-/
import Derived.Test.YtahfopednhmbiaaHead
import Derived.Test.YtahfopednhmbiaaScanB
namespace Go.Proofs.Ytahfopednhmbiaa
open Go.RowKit Go.Shelf

theorem owns_lie {w : World} {t : TypeId} {v : Value} {l : List Int} {B : Nat} (h : w.ownsRow B t 1 v l.length (l.map (Value.int .u8))) (hne : l ≠ []) : ∃ g c, v = .slice (some ⟨g, 0, none⟩) l.length c ∧ ∀ j u, (l.map (Value.int .u8))[j]? = some u → w.cell? ((⟨g, 0, none⟩ : Addr).add j) = some u := by
  have h' := h
  rcases h.2 with ⟨_, h0⟩ | ⟨g', cap', cur, e, _⟩
  · exact absurd (List.eq_nil_of_length_eq_zero h0) hne
  · subst e
    exact ⟨g', cap', rfl, fun j u hj => reads_add (reads_own h') hj⟩
theorem digs_nil (n : Nat) : digs n ≠ [] := by rw [digs]; split <;> simp
theorem owns_new {w : World} {t : TypeId} {z : Value} : (w.alloc (.cells #[z] t)).ownsRow w.heap.size t 1 (.slice (some ⟨w.heap.size, 0, none⟩) 1 1) 1 [z] :=
  ⟨rfl, .inr ⟨w.heap.size, 1, #[z], rfl, Nat.le_refl _, World.alloc_heap_new w _, Nat.le_refl _, by unfold maxLen; omega, rfl, rfl⟩⟩

set_option maxRecDepth 100000 in
set_option maxHeartbeats 2000000 in
theorem bytes_any : ∀ (k n : Nat) (_ : n < 18446744073709551616) (_ : n < 128 ^ (k + 1)) (w : World), Calls Try.prog 14 #[.int .u64 n] w (MadeB w (digs n)) := by
  intro k
  induction k with
  | zero =>
    intro n h64 hn w
    have g : n < 128 := by omega
    have E := Lib.hid (digs_end g)
    clear hn
    go_enter Try.func14, Try.ntmps14
    go_wp2_with fail
    go_ret
    rw [E.out]
    exact ⟨_, rfl, below_alloc w _, owns_new⟩
  | succ k ih =>
    intro n h64 hn w
    by_cases g : n < 128
    · have E := Lib.hid (digs_end g)
      clear hn ih
      go_enter Try.func14, Try.ntmps14
      go_wp2_with fail
      go_ret
      rw [E.out]
      exact ⟨_, rfl, below_alloc w _, owns_new⟩
    · have E := Lib.hid (digs_more g)
      obtain ⟨i0, hi, hz0, hz1, hz2⟩ := info_parts infoU8
      have hq : n / 128 < 128 ^ (k + 1) := by rw [Nat.pow_succ] at hn; omega
      have IH := Lib.hid (fun W => ih (n / 128) (by omega) hq W)
      have hd := digs_len k (n / 128) hq
      clear ih hn hq
      go_enter Try.func14, Try.ntmps14
      go_wp2_with fail
      refine (IH.out _).mono ?_
      rintro e w1 ⟨v1, rfl, hb1, ho1⟩
      have hd10 := digs_ten (u := n / 128) (by omega)
      obtain ⟨g1, c1, rfl, hcells⟩ := owns_lie ho1 (digs_nil _)
      have hown := owns_below (owns_new (w := w) (t := 5) (z := .int .u8 ((n : Int) % 128 + 128))) hb1
      have hB1 := under (below_alloc w _) hb1
      have HC := Lib.hid hcells
      have HB1 := Lib.hid hB1
      have HO := Lib.hid hown
      clear IH hb1 ho1 hcells hown hB1
      go_wp2_with (at_builtin; refine wpList_append_own _ rfl _ _ 22 rfl w.heap.size 5 i0 (.int .u8 0) 1 1 Try.underlying22 hi hz0 hz1 hz2 rfl (by decide) _ _ _ rfl HO.out ⟨g1, 0, none⟩ _ c1 ((digs (n / 128)).map (Value.int .u8)) rfl ?qc1 HC.out ?qc3 ?qc4 ?qc5 ?qc6 ?_)
      case qc1 => simp
      case qc3 => intro u hu; obtain ⟨x, _, rfl⟩ := List.mem_map.1 hu; rfl
      case qc4 => unfold maxLen; omega
      case qc5 => omega
      case qc6 => exact HB1.out.size
      intro v' w2 hown' hgrow _
      have hB2 := Lib.hid (HB1.out.grown hgrow HB1.out.size (fun j hj => by simp [Value.ownBlock] at hj; omega))
      have HO2 := Lib.hid hown'
      clear hgrow HB1 HO HC hown'
      go_wp2_with fail
      go_ret
      rw [E.out]
      refine ⟨v', rfl, hB2.out, ?_⟩
      have := HO2.out
      rw [Nat.add_comm] at this
      simpa using this
theorem bytesR (n : Nat) (hn : n < 18446744073709551616) (w : World) : Calls Try.prog 14 #[.int .u64 n] w (MadeB w (digs n)) := bytes_any 9 n hn (by omega) w
theorem sign_any (n : Int) (h1 : -9223372036854775808 ≤ n) (h2 : n ≤ 9223372036854775807) (w : World) : Calls Try.prog 37 #[.int .i64 n] w (fun e w' => e = .returned (.int .u64 (Lib.zigzag n)) ∧ w = w') := by
  by_cases g : n < 0
  · have E : Hid ((Lib.zigzag n : Int) = 2 * -(n + 1) + 1) := Lib.hid (by unfold Lib.zigzag; rw [if_neg (by omega)]; omega)
    have i1 : 0 ≤ -(n + 1) := by omega
    have i2 : -(n + 1) ≤ 9223372036854775807 := by omega
    go_enter Try.func37, Try.ntmps37
    go_wp2_with fail
    go_ret
    exact ⟨by rw [E.out]; rfl, rfl⟩
  · have E : Hid ((Lib.zigzag n : Int) = 2 * n) := Lib.hid (by unfold Lib.zigzag; rw [if_pos (by omega)]; omega)
    go_enter Try.func37, Try.ntmps37
    go_wp2_with fail
    go_ret
    exact ⟨by rw [E.out]; rfl, rfl⟩
set_option maxHeartbeats 1000000 in
theorem signedR (m : Int) (h1 : -9223372036854775808 ≤ m) (h2 : m ≤ 9223372036854775807) (w : World) : Calls Try.prog 15 #[.int .i64 m] w (MadeB w (digs (Lib.zigzag m))) := by
  have hz := Lib.zigzag_lt h1 h2
  go_enter Try.func15, Try.ntmps15
  go_wp2_with fail
  refine (sign_any m h1 h2 _).mono ?_
  rintro e w' ⟨rfl, rfl⟩
  go_wp2_with fail
  refine (bytesR _ hz _).mono ?_
  rintro e w1 ⟨v1, rfl, hb1, ho1⟩
  have HB := Lib.hid hb1
  have HO := Lib.hid ho1
  clear hb1 ho1
  go_wp2_with fail
  go_ret
  exact ⟨v1, rfl, HB.out, HO.out⟩
theorem unsign_any (n : Int) (h0 : 0 ≤ n) (h1 : n < 18446744073709551616) (w : World) : Calls Try.prog 43 #[.int .u64 n] w (fun e w' => e = .returned (.int .i64 (unz n)) ∧ w = w') := by
  by_cases g : n % 2 = 0
  · have t : (n % 2 == 0) = true := beq_iff_eq.2 g
    have E : Hid (unz n = n / 2) := Lib.hid (by rw [unz, if_pos g])
    clear g
    go_enter Try.func43, Try.ntmps43
    go_wp2_with fail
    go_ret
    exact ⟨by rw [E.out]; rfl, rfl⟩
  · have t : (n % 2 == 0) = false := beq_eq_false_iff_ne.2 g
    have E : Hid (unz n = -(n / 2) - 1) := Lib.hid (by rw [unz, if_neg g])
    clear g
    go_enter Try.func43, Try.ntmps43
    go_wp2_with fail
    go_ret
    exact ⟨by rw [E.out]; rfl, rfl⟩
end Go.Proofs.Ytahfopednhmbiaa
