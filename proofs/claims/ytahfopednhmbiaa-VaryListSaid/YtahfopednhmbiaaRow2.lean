/-
  Layer 2: rows that are got out of bytes. Conditions: those written at each fact.
-/
import Derived.Test.YtahfopednhmbiaaGetV
namespace Go.Proofs.Ytahfopednhmbiaa
open Go.RowKit Go.Shelf

theorem scan_pos : ∀ (l : List Int) (s : Nat), (scan s l).1 = 0 → s + 1 ≤ (scan s l).2
  | [], s, h => by simp [scan] at h
  | d :: l, s, h => by
    rw [scan] at h ⊢
    by_cases h1 : s = 9 ∧ 1 < d
    · rw [if_pos h1] at h; cases h
    · rw [if_neg h1] at h ⊢
      by_cases h2 : 128 ≤ d
      · rw [if_pos h2] at h ⊢
        have := scan_pos l (s + 1) h
        omega
      · rw [if_neg h2]
        split <;> simp
theorem got_place {l : List Int} {a : Nat} (ha : a ≤ l.length) (h : gotE l a = 0) : ∃ p : Nat, gotP l a = p ∧ a < p ∧ p ≤ l.length := by
  by_cases he : (scan 0 (l.drop a)).1 = 0
  · have e := (got_ok ha he).2.1
    have h1 := scan_pos (l.drop a) 0 he
    have h2 := (scan_size (l.drop a) 0).2
    have h3 : (l.drop a).length = l.length - a := by simp
    exact ⟨a + (scan 0 (l.drop a)).2, by rw [e]; simp, by omega, by omega⟩
  · have := (got_err ha he).2.2
    rw [this] at h
    exact absurd h he
theorem got_range {l : List Int} (hb : ∀ z ∈ l, 0 ≤ z ∧ z < 256) (a : Int) : 0 ≤ gotN l a ∧ gotN l a < 18446744073709551616 := by
  unfold gotN
  split
  · omega
  · split
    · rename_i h
      exact ⟨(numOf_range _).1, numOf_ten (fun d hd => (hb d (List.mem_of_mem_drop hd)).1) h⟩
    · omega
theorem unz_range {n : Int} (h0 : 0 ≤ n) (h1 : n < 18446744073709551616) : -9223372036854775808 ≤ unz n ∧ unz n ≤ 9223372036854775807 := by
  unfold unz; split <;> omega

/-- So many numbers with a sign, one behind the other: the row, the place behind it, the error. -/
def rowOf : Nat → List Int → Int → List Int × Int × Int
  | 0, _, a => ([], a, 0)
  | n + 1, l, a => if gotE l a = 0 then (if (rowOf n l (gotP l a)).2.2 = 0 then (unz (gotN l a) :: (rowOf n l (gotP l a)).1, (rowOf n l (gotP l a)).2.1, 0) else ([], 0, (rowOf n l (gotP l a)).2.2)) else ([], 0, gotE l a)
/-- .. behind some that came ahead. -/
def behind (K : List Int) (r : List Int × Int × Int) : List Int × Int × Int := if r.2.2 = 0 then (K ++ r.1, r.2.1, 0) else ([], 0, r.2.2)
theorem behind_next {K l : List Int} {a : Int} {n : Nat} (h : gotE l a = 0) : behind K (rowOf (n + 1) l a) = behind (K ++ [unz (gotN l a)]) (rowOf n l (gotP l a)) := by
  rw [rowOf, if_pos h]
  unfold behind
  by_cases g : (rowOf n l (gotP l a)).2.2 = 0
  · rw [if_pos g, if_pos g, if_pos rfl, List.append_assoc, List.singleton_append]
  · rw [if_neg g, if_neg g, if_neg g]
theorem behind_stop {K l : List Int} {a : Int} {n : Nat} (h : gotE l a ≠ 0) : behind K (rowOf (n + 1) l a) = ([], 0, gotE l a) := by
  rw [rowOf, if_neg h]
  unfold behind
  rw [if_neg h]
theorem behind_all {K l : List Int} {a : Int} : behind K (rowOf 0 l a) = (K, a, 0) := by
  unfold behind rowOf
  simp
theorem rowOf_nil {n : Nat} {l : List Int} {a : Int} : behind [] (rowOf n l a) = rowOf n l a := by
  unfold behind
  cases n with
  | zero => simp [rowOf]
  | succ n =>
    rw [rowOf]
    split
    · split
      · simp
      · rfl
    · rfl

theorem infoI64 : (Try.prog.info? 2).map (fun i => (i.zero, i.size, i.bytes)) = some (some (.int .i64 0), 1, 8) := by kernel_rfl
/-- What a function hands back that makes a row of its own, a place and an error. -/
def MadeR (w : World) (r : List Int × Int × Int) (e : Ending) (w' : World) : Prop :=
  ∃ v, e = .returned (.tuple #[v, .int .i64 r.2.1, .int .i64 r.2.2]) ∧ Below w.heap.size w w' ∧ w'.ownsRow w.heap.size 2 1 v r.1.length (r.1.map (Value.int .i64))
theorem one_cell64 {w : World} {t : TypeId} {x : Value} : ∀ (j : Nat) (u : Value), [x][j]? = some u → (w.alloc (.cells #[x] t)).cell? ((⟨w.heap.size, 0, none⟩ : Addr).add j) = some u := by
  intro j u hj
  match j, hj with
  | 0, hj => simp at hj; subst hj; simp [Addr.add]

set_option maxRecDepth 100000 in
set_option maxHeartbeats 2000000 in
theorem getAll_any (l : List Int) (hl : l.length ≤ 1000000) (hb : ∀ z ∈ l, 0 ≤ z ∧ z < 256) (a : Nat) (ha : a ≤ l.length) (n : Nat) (hn : n < 18446744073709551616) (v : Value) (w : World) (hr : Reads .u8 w v l) :
    Calls Try.prog 44 #[v, .int .i64 a, .int .u64 n] w (MadeR w (rowOf n l a)) := by
  obtain ⟨i0, hi, hz0, hz1, hz2⟩ := info_parts infoI64
  have HB := Lib.hid hb
  have HR := Lib.hid hr
  clear hb hr
  go_enter Try.func44, Try.ntmps44
  go_wp2_with fail
  go_loopw [9, 1, 14] (fun v9 v1 v14 wr => ∃ (K : List Int) (p : Nat), v1 = .int .i64 p ∧ v14 = .int .u64 K.length ∧ K.length ≤ n ∧ K.length ≤ p ∧ p ≤ l.length ∧ Hid (behind K (rowOf (n - K.length) l p) = rowOf n l a) ∧ wr.ownsRow w.heap.size 2 1 v9 K.length (K.map (Value.int .i64)) ∧ Below w.heap.size w wr)
    (fun _ _ v14 _ => n - (intOf v14).toNat)
  case atStart => exact ⟨[], a, rfl, rfl, by simp, by simp, ha, Lib.hid rowOf_nil, World.ownsRow_nil _ _ _ _, Below.refl _ _⟩
  case round =>
    obtain ⟨K, p, rfl, rfl, hkn, hkp, hpl, hE, hown, hB⟩ := hrel
    by_cases g : K.length < n
    · have G := Lib.hid (get_any l hl HB.out p v wr (HR.out.below hB))
      have hgr := got_range HB.out p
      have hur := unz_range hgr.1 hgr.2
      by_cases ge : gotE l p = 0
      · obtain ⟨q, eq, hpq, hql⟩ := got_place hpl ge
        have hE2 : Hid (behind (K ++ [unz (gotN l p)]) (rowOf (n - (K.length + 1)) l q) = rowOf n l a) := Lib.hid (by
          have := hE.out
          rw [show n - K.length = (n - (K.length + 1)) + 1 from by omega, behind_next ge, eq] at this
          exact this)
        rw [ge, eq] at G
        generalize unz (gotN l p) = z at *
        clear hE ge eq hgr
        go_wp2_with fail
        refine G.out.mono ?_
        rintro e w1 ⟨rfl, hb1⟩
        have hown1 := Lib.hid hown
        have hB1 := under hB hb1
        have ho1 := owns_below hown hb1
        clear hown hown1 hb1 hB G
        go_wp2_with (at_builtin; refine wpList_append_own _ rfl _ _ 40 rfl w.heap.size 2 i0 (.int .i64 0) 1 8 Try.underlying40 hi hz0 hz1 hz2 rfl (by decide) _ _ _ rfl (ho1.alloc _) ⟨w1.heap.size, 0, none⟩ 1 1 [.int .i64 z] rfl rfl one_cell64 (by simp [Value.oneCell']) ?c3 ?c4 ?c5 ?_)
        case c3 => unfold maxLen; omega
        case c4 => omega
        case c5 => have := hB1.size; simp; omega
        intro v' w2 hown' hgrow _
        have hB2 : Below w.heap.size w w2 := (hB1.alloc (by have := hB1.size; omega) _).grown hgrow (by have := hB1.size; simp; omega) (fun j hj => by have := (ho1.lt j hj).1; omega)
        clear hgrow ho1 hB1
        go_wp2_with fail
        go_roundw
        case rel => exact ⟨K ++ [z], q, rfl, by simp, by simp; omega, by simp; omega, hql, by simpa using hE2, by simpa using hown', hB2⟩
        case measure => simp [intOf]; omega
      · have hE2 : Hid (rowOf n l a = ([], 0, gotE l p)) := Lib.hid (by
          have := hE.out
          rw [show n - K.length = (n - (K.length + 1)) + 1 from by omega, behind_stop ge] at this
          exact this.symm)
        generalize gotE l p = ev at *
        have t : (ev != 0) = true := by rw [bne_iff_ne]; exact ge
        have hown1 := Lib.hid hown
        generalize unz (gotN l p) = z at *
        generalize gotP l p = q at *
        clear hE ge hgr hur hown
        go_wp2_with fail
        refine G.out.mono ?_
        rintro e w1 ⟨rfl, hb1⟩
        have hB1 := Lib.hid (under hB hb1)
        clear hb1 hB G hown1
        go_wp2_with fail
        go_ret3
        rw [hE2.out]
        exact ⟨_, rfl, hB1.out, World.ownsRow_nil _ _ _ _⟩
    · have hE2 : Hid (rowOf n l a = (K, (p : Int), 0)) := Lib.hid (by
        have := hE.out
        rw [show n - K.length = 0 from by omega, behind_all] at this
        exact this.symm)
      have hown1 := Lib.hid hown
      clear hE hown
      go_wp2_with fail
      go_ret3
      rw [hE2.out]
      exact ⟨_, rfl, hB, hown1.out⟩

/-- The row whose bytes begin at a place. -/
def gotRow (l : List Int) (a most : Int) : List Int × Int × Int :=
  if most < 0 then ([], 0, 2) else if gotE l a ≠ 0 then ([], 0, gotE l a) else if most < gotN l a then ([], 0, 3) else rowOf (gotN l a).toNat l (gotP l a)
set_option maxRecDepth 100000 in
set_option maxHeartbeats 2000000 in
theorem getRow_any (l : List Int) (hl : l.length ≤ 1000000) (hb : ∀ z ∈ l, 0 ≤ z ∧ z < 256) (a most : Int) (hm : most ≤ 9223372036854775807) (v : Value) (w : World) (hr : Reads .u8 w v l) :
    Calls Try.prog 29 #[v, .int .i64 a, .int .i64 most] w (MadeR w (gotRow l a most)) := by
  by_cases g0 : most < 0
  · have E := Lib.hid (show gotRow l a most = ([], 0, 2) from by unfold gotRow; rw [if_pos g0])
    clear hb hr
    go_enter Try.func29, Try.ntmps29
    go_wp2_with fail
    go_ret3
    rw [E.out]
    exact ⟨_, rfl, Below.refl _ _, World.ownsRow_nil _ _ _ _⟩
  · have G := Lib.hid (getU_any l hl hb a v w hr)
    have hgr := got_range hb a
    by_cases ge : gotE l a = 0
    · have hab : 0 ≤ a ∧ a ≤ l.length := by
        by_cases hx : a < 0 ∨ (l.length : Int) < a
        · have := (got_bad hx).2.2; rw [this] at ge; cases ge
        · omega
      obtain ⟨a', rfl⟩ : ∃ a' : Nat, a = a' := ⟨a.toNat, by omega⟩
      obtain ⟨q, eq, hpq, hql⟩ := got_place (by omega) ge
      obtain ⟨n, en⟩ : ∃ n : Nat, gotN l a' = n := ⟨(gotN l a').toNat, by omega⟩
      rw [ge, eq, en] at G
      rw [en] at hgr
      by_cases gm : most < (n : Int)
      · have E := Lib.hid (show gotRow l a' most = ([], 0, 3) from by unfold gotRow; rw [if_neg g0, if_neg (by simp [ge]), en, if_pos gm])
        clear hb hr ge eq en
        go_enter Try.func29, Try.ntmps29
        go_wp2_with fail
        refine G.out.mono ?_
        rintro e w1 ⟨rfl, hb1⟩
        have hB1 := Lib.hid hb1
        clear hb1 G
        go_wp2_with fail
        go_ret3
        rw [E.out]
        exact ⟨_, rfl, hB1.out, World.ownsRow_nil _ _ _ _⟩
      · have E := Lib.hid (show gotRow l a' most = rowOf n l q from by unfold gotRow; rw [if_neg g0, if_neg (by simp [ge]), en, if_neg gm, eq]; rfl)
        have GA := Lib.hid (fun w1 (hb1 : Below w.heap.size w w1) => getAll_any l hl hb q hql n (by omega) v w1 (hr.below hb1))
        clear hb hr ge eq en
        go_enter Try.func29, Try.ntmps29
        go_wp2_with fail
        refine G.out.mono ?_
        rintro e w1 ⟨rfl, hb1⟩
        have GB := Lib.hid (GA.out w1 hb1)
        have hB1 := Lib.hid hb1
        clear hb1 G GA
        go_wp2_with fail
        refine GB.out.mono ?_
        rintro e w2 ⟨v', rfl, hb2, ho2⟩
        have HB2 := Lib.hid (under hB1.out hb2)
        have HO2 := Lib.hid (owns_less ho2 hB1.out.size)
        clear hb2 ho2 GB
        generalize rowOf n l q = r at *
        go_wp2_with fail
        go_ret3
        rw [E.out]
        exact ⟨_, rfl, HB2.out, HO2.out⟩
    · have E := Lib.hid (show gotRow l a most = ([], 0, gotE l a) from by unfold gotRow; rw [if_neg g0, if_pos ge])
      generalize gotE l a = ev at *
      generalize gotN l a = nn at *
      generalize gotP l a = pp at *
      have t : (ev != 0) = true := by rw [bne_iff_ne]; exact ge
      have t2 : (ev == 0) = false := beq_eq_false_iff_ne.2 ge
      clear hb hr ge
      go_enter Try.func29, Try.ntmps29
      go_wp2_with fail
      refine G.out.mono ?_
      rintro e w1 ⟨rfl, hb1⟩
      have hB1 := Lib.hid hb1
      clear hb1 G
      go_wp2_with fail
      go_ret3
      rw [E.out]
      exact ⟨_, rfl, hB1.out, World.ownsRow_nil _ _ _ _⟩
end Go.Proofs.Ytahfopednhmbiaa
