/-
  Layer 2: PutU, Put, PutRow. Conditions: those written at each fact.
-/
import Derived.Test.YtahfopednhmbiaaPut
namespace Go.Proofs.Ytahfopednhmbiaa
open Go.RowKit Go.Shelf

theorem MadeB.up {w w1 : World} {l : List Int} {e : Ending} {w' : World} (h : MadeB w1 l e w') (hb : Below w.heap.size w w1) : MadeB w l e w' := by
  obtain ⟨v, rfl, h1, h2⟩ := h
  exact ⟨v, rfl, under hb h1, owns_less h2 hb.size⟩

set_option maxHeartbeats 1000000 in
theorem putU_any (l : List Int) (hl : l.length ≤ 100000) (x : Nat) (hx : x < 18446744073709551616) (v : Value) (w : World) (h : Reads .u8 w v l) :
    Calls Try.prog 12 #[v, .int .u64 x] w (MadeB w (l ++ digs x)) := by
  have e : bytesOf Int.toNat [(x : Int)] = digs x := by simp [bytesOf]
  have K := Lib.hid (putU_core l hl [(x : Int)] (by simp) (fun z hz => by simp at hz; subst hz; omega) v _ (w.alloc (.cells #[.int .u64 x] 23)) (h.below (below_alloc w _)) reads_one)
  rw [e] at K
  clear e
  go_enter Try.func12, Try.ntmps12
  go_wp2_with fail
  refine (K.out).mono ?_
  rintro e w' ⟨v', rfl, hb, ho⟩
  have hb' := under (below_alloc w _) hb
  have ho' := owns_less ho (Nat.le_of_lt (show w.heap.size < (w.alloc (.cells #[.int .u64 x] 23)).heap.size by simp))
  clear hb ho K
  go_wp2_with fail
  go_ret
  exact ⟨v', rfl, hb', ho'⟩

set_option maxHeartbeats 1000000 in
theorem put_any (l : List Int) (hl : l.length ≤ 100000) (x : Int) (h1 : -9223372036854775808 ≤ x) (h2 : x ≤ 9223372036854775807) (v : Value) (w : World) (h : Reads .u8 w v l) :
    Calls Try.prog 13 #[v, .int .i64 x] w (MadeB w (l ++ digs (Lib.zigzag x))) := by
  have e : bytesOf Lib.zigzag [x] = digs (Lib.zigzag x) := by simp [bytesOf]
  have K := Lib.hid (put_core l hl [x] (by simp) (fun z hz => by simp at hz; subst hz; omega) v _ (w.alloc (.cells #[.int .i64 x] 2)) (h.below (below_alloc w _)) reads_one)
  rw [e] at K
  clear e
  go_enter Try.func13, Try.ntmps13
  go_wp2_with fail
  refine (K.out).mono ?_
  rintro e w' ⟨v', rfl, hb, ho⟩
  have hb' := under (below_alloc w _) hb
  have ho' := owns_less ho (Nat.le_of_lt (show w.heap.size < (w.alloc (.cells #[.int .i64 x] 2)).heap.size by simp))
  clear hb ho K
  go_wp2_with fail
  go_ret
  exact ⟨v', rfl, hb', ho'⟩

/-- A row's bytes. -/
def rowBytes (ms : List Int) : List Int := digs ms.length ++ bytesOf Lib.zigzag ms
set_option maxHeartbeats 1000000 in
theorem putRow_any (l : List Int) (hl : l.length ≤ 90000) (ms : List Int) (hm : ms.length ≤ 1000) (hr : ∀ z ∈ ms, -9223372036854775808 ≤ z ∧ z ≤ 9223372036854775807) (v v2 : Value) (w : World) (h : Reads .u8 w v l) (h2 : Reads .i64 w v2 ms) :
    Calls Try.prog 26 #[v, v2] w (MadeB w (l ++ rowBytes ms)) := by
  have hd := (digs_ten (u := ms.length) (by omega)).2
  have H2 := Lib.hid h2
  obtain ⟨A2, c2, rfl, hc2, _⟩ := h2
  have hml : ((ms.length : Nat) : Int) ≤ 1000 := by omega
  have HR := Lib.hid hr
  have H1 := Lib.hid h
  clear hr h
  go_enter Try.func26, Try.ntmps26
  go_wp2_with fail
  refine (putU_any l (by omega) ms.length (by omega) v _ H1.out).mono ?_
  rintro e w' ⟨v', rfl, hb, ho⟩
  have HB := Lib.hid hb
  have HO := Lib.hid ho
  clear hb ho
  go_wp2_with fail
  refine (put_core (l ++ digs ms.length) (by simp; omega) ms hm HR.out v' _ w' (reads_own HO.out) (H2.out.below HB.out)).mono ?_
  rintro e w2 ⟨v2, rfl, hb2, ho2⟩
  have HB2 := Lib.hid (under HB.out hb2)
  have HO2 := Lib.hid (owns_less ho2 HB.out.size)
  clear hb2 ho2
  go_wp2_with fail
  go_ret
  exact ⟨v2, rfl, HB2.out, by unfold rowBytes; rw [← List.append_assoc]; exact HO2.out⟩
end Go.Proofs.Ytahfopednhmbiaa
