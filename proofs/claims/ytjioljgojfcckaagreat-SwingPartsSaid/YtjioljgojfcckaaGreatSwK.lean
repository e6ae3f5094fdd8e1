/-
  Layer 9: swing: the parts of bands, and their doors. Conditions: those written at each fact.
-/
import Derived.Test.YtjioljgojfcckaaGreatSwJ
import Derived.Test.YtjioljgojfcckaaGreatHA
namespace Go.Proofs.YtjioljgojfcckaaGreat.P9
open Go.RowKit Go.Shelf Go.Proofs.YtjioljgojfcckaaGreat.P8

theorem firN_cons (b : Bd) (t : List Bd) : firN (b :: t) = goS (open0 b) t + 1 := by
  rw [firN, goS, step_own, open_unshut, if_neg (by simp)]
/-- The parts of bands, each with its door. -/
def partsS : List Bd → List (List Bd × Dr)
  | [] => []
  | b :: t => ((b :: t).take (firN (b :: t)), firX (b :: t)) :: partsS (t.drop (goS (open0 b) t))
termination_by l => l.length
decreasing_by simp; omega
theorem partsS_nil : partsS [] = [] := by rw [partsS]
theorem partsS_next {l : List Bd} (hne : l ≠ []) : partsS l = (l.take (firN l), firX l) :: partsS (l.drop (firN l)) := by
  obtain ⟨b, t, rfl⟩ := List.exists_cons_of_ne_nil hne
  rw [partsS]
  congr 1
  rw [firN_cons, List.drop_succ_cons]
theorem firN_le {l : List Bd} (hne : l ≠ []) : 1 ≤ firN l ∧ firN l ≤ l.length := by
  obtain ⟨b, t, rfl⟩ := List.exists_cons_of_ne_nil hne
  exact ⟨goS_one b t, goS_le _ _⟩
def lenV : Value → Nat
  | .slice _ n _ => n
  | _ => 0
theorem parts_le : ∀ (n : Nat) (l : List Bd), l.length ≤ n → (partsS l).length ≤ l.length
  | 0, l, h => by
    have e : l = [] := List.eq_nil_of_length_eq_zero (by omega)
    subst e
    rw [partsS_nil]; simp
  | n + 1, l, h => by
    by_cases hne : l = []
    · subst hne
      rw [partsS_nil]; simp
    · obtain ⟨h1, h2⟩ := firN_le hne
      rw [partsS_next hne, List.length_cons]
      have := parts_le n (l.drop (firN l)) (by rw [List.length_drop]; omega)
      rw [List.length_drop] at this
      omega
def rowS (l : List Bd) : List (List Bd × Dr) := if okD l then partsS l else []
def codeS (l : List Bd) : Int := if okD l then 0 else 180
/-- What the parts are told as: numbers, or lines. -/
def flatI : List (List Bd × Dr) → List Value
  | [] => []
  | p :: l => .int .i64 (p.1.length : Int) :: flatI l
def flatX : List (List Bd × Dr) → List Value
  | [] => []
  | p :: l => .int .i64 p.2.v :: .int .i64 0 :: .int .i64 (flatN p.2) :: .int .i64 (flatE p.2) :: flatX l
theorem flatI_app : ∀ l m : List (List Bd × Dr), flatI (l ++ m) = flatI l ++ flatI m
  | [], _ => rfl
  | p :: l, m => by simp [flatI, flatI_app l m]
theorem flatX_app : ∀ l m : List (List Bd × Dr), flatX (l ++ m) = flatX l ++ flatX m
  | [], _ => rfl
  | p :: l, m => by simp [flatX, flatX_app l m]
theorem new_cells4 {W : World} {a b c d : Value} {t : TypeId} {n : Nat} (hn : n = W.heap.size) : ∀ (j : Nat) (u : Value), [a, b, c, d][j]? = some u → (W.alloc (.cells #[a, b, c, d] t)).cell? ((⟨n, 0, none⟩ : Addr).add j) = some u := by
  subst hn
  intro j u h
  match j, h with
  | 0, h => cases h; simp [Addr.add, go_sem]
  | 1, h => cases h; simp [Addr.add, go_sem]
  | 2, h => cases h; simp [Addr.add, go_sem]
  | 3, h => cases h; simp [Addr.add, go_sem]
  | j + 4, h => simp at h
theorem infoLine : (Tryz.prog.info? 23).map (fun i => (i.zero, i.size, i.bytes)) = some (some (.agg #[.int .i64 0, .int .i64 0, .int .i64 0, .int .i64 0]), 4, 32) := by kernel_rfl
set_option maxHeartbeats 1000000 in
theorem tellI_any (A : Option Addr) (n c : Nat) (x : Dr) (W : World) : Calls Tryz.prog 34 #[.slice A n c, drV x] W (Ret W (.int .i64 (n : Int))) := by
  go_enter Tryz.func34, Tryz.ntmps34
  go_wp2_with fail
  go_returns
  exact ⟨rfl, below_alloc W _⟩
set_option maxHeartbeats 1000000 in
theorem tellX_any (A : Option Addr) (n c : Nat) (x : Dr) (hx : DrOk x) (hs : shutD x = false) (W : World) : Calls Tryz.prog 36 #[.slice A n c, drV x] W (Ret W (lnV x.v 0 (flatN x) (flatE x))) := by
  have FI := Lib.hid (fun W' => fitted_any x hx hs W')
  clear hx hs
  generalize flatN x = p at *
  generalize flatE x = q at *
  obtain ⟨t, v, a, b, c', d⟩ := x
  simp only at FI ⊢
  go_enter Tryz.func36, Tryz.ntmps36
  go_wp2_with fail
  refine (FI.out _).mono ?_
  rintro en w1 ⟨rfl, hb1⟩
  have hHeld : Keeps W [(W.heap.size + 1, 0, .int .i64 0), (W.heap.size + 1, 1, .int .i64 0), (W.heap.size + 1, 2, .int .i64 0), (W.heap.size + 1, 3, .int .i64 0)] w1 := Keeps.next (by refine ⟨((Below.refl _ W).alloc (Nat.le_refl _) _).alloc (by simp) _, ?_⟩; simp [Cells, go_sem]) hb1
  clear hb1
  obtain ⟨⟨kz0, kc0, kf0⟩, ⟨kz1, kc1, kf1⟩, ⟨kz2, kc2, kf2⟩, ⟨kz3, kc3, kf3⟩, _⟩ := hHeld.2
  go_wp2_with fail
  obtain ⟨d0, d1, d2, d3⟩ := set4 (W := w1) (B := W.heap.size + 1) (u0 := .int .i64 v) (u1 := .int .i64 0) (u2 := .int .i64 p) (u3 := .int .i64 q) kc0 kc1 kc2 kc3
  refine bodyPost_ret (v := lnV v 0 p q) (by simp [results, Tryz.results36, go_sem, d0, d1, d2, d3]) rfl ?_
  exact ⟨rfl, below_set4 hHeld.1 (by omega) _ _ _ _⟩
end Go.Proofs.YtjioljgojfcckaaGreat.P9
