/-
  Layer 2: bytes.Equal, bytes.HasPrefix. Conditions: those written at each fact.
-/
import Derived.Test.YtahfopednhmbiaaEq
import Derived.Laws.BytesArg
namespace Go.Proofs.Ytahfopednhmbiaa
open Go.RowKit

theorem nums_inj : ∀ {l m : List Int}, (∀ z ∈ l, 0 ≤ z ∧ z < 256) → (∀ z ∈ m, 0 ≤ z ∧ z < 256) → strOfNums l = strOfNums m → l = m := by
  intro l m hl hm e
  have e1 : l.map (fun n => UInt8.ofNat n.toNat) = m.map (fun n => UInt8.ofNat n.toNat) := by
    have := congrArg (fun b : ByteArray => b.data.toList) e
    simpa [strOfNums] using this
  clear e
  induction l generalizing m with
  | nil => cases m with
    | nil => rfl
    | cons y m => simp at e1
  | cons x l ih => cases m with
    | nil => simp at e1
    | cons y m =>
      simp only [List.map_cons, List.cons.injEq] at e1
      obtain ⟨a, b⟩ := e1
      have hx := hl x (List.mem_cons_self ..)
      have hy := hm y (List.mem_cons_self ..)
      have e2 : (UInt8.ofNat x.toNat).toNat = (UInt8.ofNat y.toNat).toNat := by rw [a]
      simp at e2
      have e3 : x = y := by omega
      rw [e3, ih (fun z hz => hl z (List.mem_cons_of_mem _ hz)) (fun z hz => hm z (List.mem_cons_of_mem _ hz)) b]
theorem bytes_toList_inj {a b : ByteArray} (h : a.toList = b.toList) : a = b := by
  rw [ByteArray.toList_eq, ByteArray.toList_eq] at h
  cases a
  cases b
  simp only [ByteArray.mk.injEq]
  exact Array.toList_inj.1 h
/-- These bytes lie there. -/
def Lie (w : World) (b off : Nat) (l : List Int) : Prop := ∀ i z, l[i]? = some z → w.cell? ⟨b, off + i, none⟩ = some (.int .u8 z)
theorem Lie.getD {w : World} {b off : Nat} {l : List Int} (h : Lie w b off l) : ∀ i, i < l.length → w.cell? ⟨b, off + i, none⟩ = some (.int .u8 (l.getD i 0)) := by
  intro i hi
  have := h i l[i] (List.getElem?_eq_getElem hi)
  rw [this]
  simp [List.getD, hi]
theorem typeString : Try.prog.underlying 9 = some .string := Try.underlying9
set_option maxHeartbeats 1000000 in
theorem equalS (l m : List Int) (hl : ∀ z ∈ l, 0 ≤ z ∧ z < 256) (hm : ∀ z ∈ m, 0 ≤ z ∧ z < 256) (b off c b2 off2 c2 : Nat) (w : World) (h : Lie w b off l) (h2 : Lie w b2 off2 m) :
    Calls Try.prog 45 #[.slice (some ⟨b, off, none⟩) l.length c, .slice (some ⟨b2, off2, none⟩) m.length c2] w (Ret w (.bool (eqB l m))) := by
  have q1 := run_convert_bytes_arg (P := Try.prog) w 22 5 Try.underlying22 Try.underlying5 b off l.length c l rfl h.getD 9 typeString
  have q2 := run_convert_bytes_arg (P := Try.prog) w 22 5 Try.underlying22 Try.underlying5 b2 off2 m.length c2 m rfl h2.getD 9 typeString
  have E : Hid (eqB l m = ((strOfNums l).toList == (strOfNums m).toList)) := Lib.hid (by
    by_cases g : l = m
    · subst g; rw [eqB_true rfl]; simp
    · rw [eqB_false g]; symm; rw [beq_eq_false_iff_ne]; exact fun e => g (nums_inj hl hm (bytes_toList_inj e)))
  clear h h2
  go_enter Try.func45, Try.ntmps45
  go_wp2_with fail
  go_ret
  exact ⟨by rw [E.out]; rfl, Below.refl _ _⟩

/-- Does one row begin with another one? -/
def prefB (l m : List Int) : Bool := decide (m <+: l)
theorem prefB_of {l m : List Int} : prefB l m = (decide (m.length ≤ l.length) && eqB (l.take m.length) m) := by
  unfold prefB eqB
  rw [Bool.eq_iff_iff]
  simp only [Bool.and_eq_true, decide_eq_true_eq]
  constructor
  · intro h
    exact ⟨h.length_le, (List.prefix_iff_eq_take.1 h).symm⟩
  · rintro ⟨_, h⟩
    rw [List.prefix_iff_eq_take]
    exact h.symm
set_option maxHeartbeats 1000000 in
theorem hasPrefix (l m : List Int) (hl : ∀ z ∈ l, 0 ≤ z ∧ z < 256) (hm : ∀ z ∈ m, 0 ≤ z ∧ z < 256) (b off c b2 off2 c2 : Nat) (w : World) (hc : l.length ≤ c) (h : Lie w b off l) (h2 : Lie w b2 off2 m) :
    Calls Try.prog 31 #[.slice (some ⟨b, off, none⟩) l.length c, .slice (some ⟨b2, off2, none⟩) m.length c2] w (Ret w (.bool (prefB l m))) := by
  have E := Lib.hid (prefB_of (l := l) (m := m))
  by_cases g : m.length ≤ l.length
  · have Q := Lib.hid (equalS (l.take m.length) m (fun z hz => hl z (List.mem_of_mem_take hz)) hm b off c b2 off2 c2 w (fun i z hz => by
      rw [List.getElem?_take] at hz
      split at hz
      · exact h i z hz
      · cases hz) h2)
    rw [List.length_take, Nat.min_eq_left g] at Q
    have E2 : Hid (prefB l m = eqB (l.take m.length) m) := Lib.hid (by rw [E.out, decide_eq_true g, Bool.true_and])
    generalize eqB (l.take m.length) m = r at *
    clear h h2 E
    go_enter Try.func31, Try.ntmps31
    go_wp2_with fail
    refine Q.out.mono ?_
    rintro e w' ⟨rfl, hb⟩
    have HB := Lib.hid hb
    clear hb Q
    go_wp2_with fail
    go_ret
    exact ⟨by rw [E2.out]; rfl, HB.out⟩
  · have E2 : Hid (prefB l m = false) := Lib.hid (by rw [E.out, decide_eq_false g, Bool.false_and])
    clear h h2 E
    go_enter Try.func31, Try.ntmps31
    go_wp2_with fail
    go_ret
    exact ⟨by rw [E2.out]; rfl, Below.refl _ _⟩
end Go.Proofs.Ytahfopednhmbiaa
