/-
 Layer 11: a segment in memory of the law's own. Conditions: those written at each fact.
-/
import Derived.Test.YtcfidimnbamnkaaGreatSgP
import Derived.Test.YtcfidimnbamnkaaGreatND
namespace Go.Proofs.YtcfidimnbamnkaaGreat.P11
open Go.RowKit Go.Shelf Go.Proofs.YtcfidimnbamnkaaGreat.P7

structure Own2 (w' : World) (B : Nat) (s : Sg) (v u : Value) : Prop where
 runs : w'.ownsRow B 44 3 v s.R.length (flatR s.R)
 raws : w'.ownsRow B 2 1 u s.V.length (s.V.map (Value.int .i64))
theorem Own2.below {w w' : World} {B : Nat} {s : Sg} {v u : Value} (h : Own2 w B s v u) (hb : Below w.heap.size w w') : Own2 w' B s v u := ⟨owns_below h.runs hb, owns_below h.raws hb⟩
theorem Own2.readsR {w : World} {B : Nat} {s : Sg} {v u : Value} (h : Own2 w B s v u) : ReadsR w v s.R := readsR_own h.runs
theorem Own2.reads {w : World} {B : Nat} {s : Sg} {v u : Value} (h : Own2 w B s v u) : Reads .i64 w u s.V := reads_own (k := .i64) h.raws
def OwnS (w : World) (s : Sg) (e : Ending) (w' : World) : Prop := ∃ v u, e = .returned (sgV s.k v s.a s.r s.n s.d u s.e) ∧ Below w.heap.size w w' ∧ Own2 w' w.heap.size s v u
def takeS (s : Sg) : Sg := ⟨s.k, s.R.take 300, s.a, s.r, s.n, s.d, s.V.take 300, s.e⟩
theorem own_sl {w : World} {B : Nat} {e : TypeId} {s n : Nat} {v : Value} {xs : List Value} (h : w.ownsRow B e s v n xs) : ∃ A m c, v = .slice A m c := by
 rcases h.2 with ⟨rfl, _⟩ | ⟨g, cap, cur, rfl, _⟩
 ·exact ⟨_, _, _, rfl⟩
 ·exact ⟨_, _, _, rfl⟩
theorem kupd {w W : World} {L M : List (Nat × Nat × Value)} {b o : Nat} {x : Value} (h : Keeps w L W) (ha : W.cell? ⟨b, o, none⟩ = some x) (hb : w.heap.size ≤ b) (u : Value) (hM : updL b o u L = M) : Keeps w M (W.setCell ⟨b, o, none⟩ u) := hM ▸ h.upd ha hb u
set_option maxRecDepth 100000 in
set_option maxHeartbeats 4000000 in
theorem own_any (s : Sg) (hR : s.R.length ≤ 9223372036854775807) (hV : s.V.length ≤ 9223372036854775807) (v u : Value) (w : World) (h : ReadsR w v s.R) (hu : Reads .i64 w u s.V) :
  Calls Tryz.prog 15 #[sgV s.k v s.a s.r s.n s.d u s.e] w (OwnS w (takeS s)) := by
 obtain ⟨k, R, a, r, n, d, V, e⟩ := s
 simp only at *
 unfold takeS
 simp only
 obtain ⟨i0, hi, hz0, hz1, hz2⟩ := info_parts infoRun
 obtain ⟨j0, hj, hy0, hy1, hy2⟩ := info_parts infoI64
 have hK : Keeps w [(w.heap.size, 0, .int .i64 k), (w.heap.size, 1, v), (w.heap.size, 2, .int .i64 a), (w.heap.size, 3, .int .i64 r), (w.heap.size, 4, .int .i64 n), (w.heap.size, 5, .int .i64 d), (w.heap.size, 6, u), (w.heap.size, 7, .int .i64 e), (w.heap.size + 1, 0, .int .i64 0), (w.heap.size + 1, 1, .slice none 0 0), (w.heap.size + 1, 2, .int .i64 0), (w.heap.size + 1, 3, .int .i64 0), (w.heap.size + 1, 4, .int .i64 0), (w.heap.size + 1, 5, .int .i64 0), (w.heap.size + 1, 6, .slice none 0 0), (w.heap.size + 1, 7, .int .i64 0)] ((w.alloc (sgO 27 k v a r n d u e)).alloc (.cells #[.int .i64 0, .slice none 0 0, .int .i64 0, .int .i64 0, .int .i64 0, .int .i64 0, .slice none 0 0, .int .i64 0] 27)) := by
  refine ⟨by go_grown, ?_⟩
  simp [Cells, go_sem]
 go_enter Tryz.func15, Tryz.ntmps15
 go_upto_region 1 with (fail)
 generalize (w.alloc (sgO 27 k v a r n d u e)).alloc (.cells #[.int .i64 0, .slice none 0 0, .int .i64 0, .int .i64 0, .int .i64 0, .int .i64 0, .slice none 0 0, .int .i64 0] 27) = w2 at *
 have hz2' : w.heap.size + 2 ≤ w2.heap.size := by obtain ⟨_, _, _, _, _, _, _, _, _, ⟨h1, _, _⟩, _⟩ := hK; exact h1
 have hub := hu.below hK.1
 replace h := h.below hK.1
 go_cut [] (fun wx => ∃ v' : Value, Keeps w [(w.heap.size, 0, .int .i64 k), (w.heap.size, 1, v'), (w.heap.size, 2, .int .i64 a), (w.heap.size, 3, .int .i64 r), (w.heap.size, 4, .int .i64 n), (w.heap.size, 5, .int .i64 d), (w.heap.size, 6, u), (w.heap.size, 7, .int .i64 e), (w.heap.size + 1, 0, .int .i64 0), (w.heap.size + 1, 1, .slice none 0 0), (w.heap.size + 1, 2, .int .i64 0), (w.heap.size + 1, 3, .int .i64 0), (w.heap.size + 1, 4, .int .i64 0), (w.heap.size + 1, 5, .int .i64 0), (w.heap.size + 1, 6, .slice none 0 0), (w.heap.size + 1, 7, .int .i64 0)] wx ∧ w.heap.size + 2 ≤ wx.heap.size ∧ wx.ownsRow (w.heap.size + 2) 44 3 v' (R.take 300).length (flatR (R.take 300)))
 case first =>
  clear hu hub
  obtain ⟨⟨kz0,kc0,kf0⟩,⟨kz1,kc1,kf1⟩,⟨kz2,kc2,kf2⟩,⟨kz3,kc3,kf3⟩,⟨kz4,kc4,kf4⟩,⟨kz5,kc5,kf5⟩,⟨kz6,kc6,kf6⟩,⟨kz7,kc7,kf7⟩,⟨kz8,kc8,kf8⟩,⟨kz9,kc9,kf9⟩,⟨kz10,kc10,kf10⟩,⟨kz11,kc11,kf11⟩,⟨kz12,kc12,kf12⟩,⟨kz13,kc13,kf13⟩,⟨kz14,kc14,kf14⟩,⟨kz15,kc15,kf15⟩,_⟩ := hK.2
  obtain ⟨A, c, rfl, hc, hk⟩ := id h
  have x0 := kz1
  have x1 := kc1
  have x2 := kf1
  clear kz0 kc0 kf0 kz1 kc1 kf1 kz2 kc2 kf2 kz3 kc3 kf3 kz4 kc4 kf4 kz5 kc5 kf5 kz6 kc6 kf6 kz7 kc7 kf7 kz8 kc8 kf8 kz9 kc9 kf9 kz10 kc10 kf10 kz11 kc11 kf11 kz12 kc12 kf12 kz13 kc13 kf13 kz14 kc14 kf14 kz15 kc15 kf15
  cases A with
  | none =>
   have e : R = [] := by
    cases R with
    | nil => rfl
    | cons x l' =>
     obtain ⟨b, off, e1, _⟩ := hk 0 x rfl
     cases e1
   subst e
   clear hk h
   have hm : min (0 : Int) 300 = 0 := by decide
   have hsz : (w2.setCell ⟨w.heap.size, 1, none⟩ (.slice (some ⟨w2.heap.size, 0, none⟩) 0 0)).heap.size = w2.heap.size := by simp [World.setCell]
   have ho := World.ownsRow_made (base := w.heap.size + 2) (e := 44) (size := 3) (w2.setCell ⟨w.heap.size, 1, none⟩ (.slice (some ⟨w2.heap.size, 0, none⟩) 0 0)) #[] 0 (by omega) (Nat.zero_le _) rfl
   rw [hsz] at ho
   have hK2 := (kupd (M := [(w.heap.size, 0, .int .i64 k), (w.heap.size, 1, .slice (some ⟨w2.heap.size, 0, none⟩) 0 0), (w.heap.size, 2, .int .i64 a), (w.heap.size, 3, .int .i64 r), (w.heap.size, 4, .int .i64 n), (w.heap.size, 5, .int .i64 d), (w.heap.size, 6, u), (w.heap.size, 7, .int .i64 e), (w.heap.size + 1, 0, .int .i64 0), (w.heap.size + 1, 1, .slice none 0 0), (w.heap.size + 1, 2, .int .i64 0), (w.heap.size + 1, 3, .int .i64 0), (w.heap.size + 1, 4, .int .i64 0), (w.heap.size + 1, 5, .int .i64 0), (w.heap.size + 1, 6, .slice none 0 0), (w.heap.size + 1, 7, .int .i64 0)]) hK x1 (Nat.le_refl _) (.slice (some ⟨w2.heap.size, 0, none⟩) 0 0) (by simp [updL])).alloc (.cells #[] 44)
   have hz3 : w.heap.size + 2 ≤ ((w2.setCell ⟨w.heap.size, 1, none⟩ (.slice (some ⟨w2.heap.size, 0, none⟩) 0 0)).alloc (.cells #[] 44)).heap.size := by have := (below_alloc (w2.setCell ⟨w.heap.size, 1, none⟩ (.slice (some ⟨w2.heap.size, 0, none⟩) 0 0)) (.cells #[] 44)).size; omega
   go_wp2_with fail
   go_meet
   case rel => exact ⟨_, hK2, hz3, ho⟩
  | some ad =>
   by_cases g : R.length ≤ 300
   ·have HH : Hid (ReadsR w2 (.slice (some ad) R.length c) (R.take 300)) := Lib.hid (by rw [List.take_of_length_le g]; exact h)
    have HT : Hid ((R.take 300).length = R.length) := Lib.hid (by rw [List.take_of_length_le g])
    have hm : min (R.length : Int) 300 = (R.length : Int) := by omega
    clear hk h
    generalize R.take 300 = m at *
    have FL := Lib.hid (flatR_length m)
    go_wp2_with (at_builtin; refine wpList_append_own _ rfl _ _ 22 rfl w2.heap.size 44 i0 (.agg #[.int .i64 0, .int .i64 0, .int .i64 0]) 3 24 Tryz.underlying22 hi hz0 hz1 hz2 rfl (by decide) _ _ _ rfl (World.ownsRow_made w2 #[] 0 (Nat.le_refl _) (Nat.zero_le _) rfl) ad R.length c (flatR m) rfl ?qc1 ?qc2 ?qc3 ?qc4 ?qc5 ?qc6 ?_)
    case qc1 => rw [FL.out, HT.out]
    case qc2 => exact reads_flatR (HH.out.below (below_alloc w2 _))
    case qc3 => exact P7.flatR_one m
    case qc4 => unfold maxLen; omega
    case qc5 => omega
    case qc6 => simp
    intro v9 w9 hown hgrow _
    obtain ⟨A9, n9, c9, rfl⟩ := own_sl hown
    have hb9 : Below w2.heap.size w2 w9 := ((Below.refl _ w2).alloc (Nat.le_refl _) _).grown hgrow (by simp) (by intro k hk; simp [Value.ownBlock] at hk; omega)
    have hK2 := kupd (M := [(w.heap.size, 0, .int .i64 k), (w.heap.size, 1, .slice A9 n9 c9), (w.heap.size, 2, .int .i64 a), (w.heap.size, 3, .int .i64 r), (w.heap.size, 4, .int .i64 n), (w.heap.size, 5, .int .i64 d), (w.heap.size, 6, u), (w.heap.size, 7, .int .i64 e), (w.heap.size + 1, 0, .int .i64 0), (w.heap.size + 1, 1, .slice none 0 0), (w.heap.size + 1, 2, .int .i64 0), (w.heap.size + 1, 3, .int .i64 0), (w.heap.size + 1, 4, .int .i64 0), (w.heap.size + 1, 5, .int .i64 0), (w.heap.size + 1, 6, .slice none 0 0), (w.heap.size + 1, 7, .int .i64 0)]) (hK.next hb9) ((hb9.cell (p := ⟨w.heap.size, 1, none⟩) (by omega)).trans x1) (Nat.le_refl _) (.slice A9 n9 c9) (by simp [updL])
    have ho : (w9.setCell ⟨w.heap.size, 1, none⟩ (.slice A9 n9 c9)).ownsRow (w.heap.size + 2) 44 3 (.slice A9 n9 c9) m.length (flatR m) := owns_less (owns_low (i := 1) (by rw [HT.out]; simpa using hown) (by omega) (.slice A9 n9 c9)) hz2'
    have hz3 : w.heap.size + 2 ≤ (w9.setCell ⟨w.heap.size, 1, none⟩ (.slice A9 n9 c9)).heap.size := by have := hb9.size; simp [World.setCell]; omega
    have y0 : w.heap.size < w9.heap.size := Nat.lt_of_lt_of_le x0 hb9.size
    have y1 := (hb9.cell (p := ⟨w.heap.size, 1, none⟩) (by omega)).trans x1
    have y2 := (hb9.frozen (p := ⟨w.heap.size, 1, none⟩) (by omega)).trans x2
    clear HH hown hgrow hK
    go_wp2_with fail
    go_meet
    case rel => exact ⟨_, hK2, hz3, ho⟩
   ·have HH : Hid (ReadsR w2 (.slice (some ad) 300 c) (R.take 300)) := Lib.hid (readsR_take h 300 (by omega))
    have HT : Hid ((R.take 300).length = 300) := Lib.hid (by rw [List.length_take]; omega)
    have hm : min (R.length : Int) 300 = 300 := by omega
    have h3 : (300 : Int) ≤ (c : Int) := by omega
    have h4 : 300 ≤ c := by omega
    clear hk h
    generalize R.take 300 = m at *
    have FL := Lib.hid (flatR_length m)
    go_wp2_with (at_builtin; refine wpList_append_own _ rfl _ _ 22 rfl w2.heap.size 44 i0 (.agg #[.int .i64 0, .int .i64 0, .int .i64 0]) 3 24 Tryz.underlying22 hi hz0 hz1 hz2 rfl (by decide) _ _ _ rfl (World.ownsRow_made w2 #[] 0 (Nat.le_refl _) (Nat.zero_le _) rfl) ad 300 c (flatR m) rfl ?qc1 ?qc2 ?qc3 ?qc4 ?qc5 ?qc6 ?_)
    case qc1 => rw [FL.out, HT.out]
    case qc2 => exact reads_flatR (HH.out.below (below_alloc w2 _))
    case qc3 => exact P7.flatR_one m
    case qc4 => unfold maxLen; omega
    case qc5 => omega
    case qc6 => simp
    intro v9 w9 hown hgrow _
    obtain ⟨A9, n9, c9, rfl⟩ := own_sl hown
    have hb9 : Below w2.heap.size w2 w9 := ((Below.refl _ w2).alloc (Nat.le_refl _) _).grown hgrow (by simp) (by intro k hk; simp [Value.ownBlock] at hk; omega)
    have hK2 := kupd (M := [(w.heap.size, 0, .int .i64 k), (w.heap.size, 1, .slice A9 n9 c9), (w.heap.size, 2, .int .i64 a), (w.heap.size, 3, .int .i64 r), (w.heap.size, 4, .int .i64 n), (w.heap.size, 5, .int .i64 d), (w.heap.size, 6, u), (w.heap.size, 7, .int .i64 e), (w.heap.size + 1, 0, .int .i64 0), (w.heap.size + 1, 1, .slice none 0 0), (w.heap.size + 1, 2, .int .i64 0), (w.heap.size + 1, 3, .int .i64 0), (w.heap.size + 1, 4, .int .i64 0), (w.heap.size + 1, 5, .int .i64 0), (w.heap.size + 1, 6, .slice none 0 0), (w.heap.size + 1, 7, .int .i64 0)]) (hK.next hb9) ((hb9.cell (p := ⟨w.heap.size, 1, none⟩) (by omega)).trans x1) (Nat.le_refl _) (.slice A9 n9 c9) (by simp [updL])
    have ho : (w9.setCell ⟨w.heap.size, 1, none⟩ (.slice A9 n9 c9)).ownsRow (w.heap.size + 2) 44 3 (.slice A9 n9 c9) m.length (flatR m) := owns_less (owns_low (i := 1) (by rw [HT.out]; simpa using hown) (by omega) (.slice A9 n9 c9)) hz2'
    have hz3 : w.heap.size + 2 ≤ (w9.setCell ⟨w.heap.size, 1, none⟩ (.slice A9 n9 c9)).heap.size := by have := hb9.size; simp [World.setCell]; omega
    have y0 : w.heap.size < w9.heap.size := Nat.lt_of_lt_of_le x0 hb9.size
    have y1 := (hb9.cell (p := ⟨w.heap.size, 1, none⟩) (by omega)).trans x1
    have y2 := (hb9.frozen (p := ⟨w.heap.size, 1, none⟩) (by omega)).trans x2
    clear HH hown hgrow hK
    go_wp2_with fail
    go_meet
    case rel => exact ⟨_, hK2, hz3, ho⟩
 case rest =>
  clear hK h
  obtain ⟨v', hK, hz2', hr⟩ := hcut
  have hu2 : Reads .i64 wc u V := hu.below hK.1
  clear hu
  go_upto_region 2 with (fail)
  go_cut [] (fun wx => ∃ u' : Value, Keeps w [(w.heap.size, 0, .int .i64 k), (w.heap.size, 1, v'), (w.heap.size, 2, .int .i64 a), (w.heap.size, 3, .int .i64 r), (w.heap.size, 4, .int .i64 n), (w.heap.size, 5, .int .i64 d), (w.heap.size, 6, u'), (w.heap.size, 7, .int .i64 e), (w.heap.size + 1, 0, .int .i64 0), (w.heap.size + 1, 1, .slice none 0 0), (w.heap.size + 1, 2, .int .i64 0), (w.heap.size + 1, 3, .int .i64 0), (w.heap.size + 1, 4, .int .i64 0), (w.heap.size + 1, 5, .int .i64 0), (w.heap.size + 1, 6, .slice none 0 0), (w.heap.size + 1, 7, .int .i64 0)] wx ∧ w.heap.size + 2 ≤ wx.heap.size ∧ wx.ownsRow (w.heap.size + 2) 44 3 v' (R.take 300).length (flatR (R.take 300)) ∧ wx.ownsRow (w.heap.size + 2) 2 1 u' (V.take 300).length ((V.take 300).map (Value.int .i64)))
  case first =>
   obtain ⟨⟨kz0,kc0,kf0⟩,⟨kz1,kc1,kf1⟩,⟨kz2,kc2,kf2⟩,⟨kz3,kc3,kf3⟩,⟨kz4,kc4,kf4⟩,⟨kz5,kc5,kf5⟩,⟨kz6,kc6,kf6⟩,⟨kz7,kc7,kf7⟩,⟨kz8,kc8,kf8⟩,⟨kz9,kc9,kf9⟩,⟨kz10,kc10,kf10⟩,⟨kz11,kc11,kf11⟩,⟨kz12,kc12,kf12⟩,⟨kz13,kc13,kf13⟩,⟨kz14,kc14,kf14⟩,⟨kz15,kc15,kf15⟩,_⟩ := hK.2
   obtain ⟨A, c, rfl, hc, hk⟩ := id hu2
   have x0 := kz6
   have x1 := kc6
   have x2 := kf6
   clear kz0 kc0 kf0 kz1 kc1 kf1 kz2 kc2 kf2 kz3 kc3 kf3 kz4 kc4 kf4 kz5 kc5 kf5 kz6 kc6 kf6 kz7 kc7 kf7 kz8 kc8 kf8 kz9 kc9 kf9 kz10 kc10 kf10 kz11 kc11 kf11 kz12 kc12 kf12 kz13 kc13 kf13 kz14 kc14 kf14 kz15 kc15 kf15
   cases A with
   | none =>
    have e : V = [] := by
     cases V with
     | nil => rfl
     | cons x l' =>
      obtain ⟨b, off, e1, _⟩ := hk 0 x rfl
      cases e1
    subst e
    clear hk hu2
    have hm : min (0 : Int) 300 = 0 := by decide
    have hsz : (wc.setCell ⟨w.heap.size, 6, none⟩ (.slice (some ⟨wc.heap.size, 0, none⟩) 0 0)).heap.size = wc.heap.size := by simp [World.setCell]
    have ho := World.ownsRow_made (base := w.heap.size + 2) (e := 2) (size := 1) (wc.setCell ⟨w.heap.size, 6, none⟩ (.slice (some ⟨wc.heap.size, 0, none⟩) 0 0)) #[] 0 (by omega) (Nat.zero_le _) rfl
    rw [hsz] at ho
    have hK2 := (kupd (M := [(w.heap.size, 0, .int .i64 k), (w.heap.size, 1, v'), (w.heap.size, 2, .int .i64 a), (w.heap.size, 3, .int .i64 r), (w.heap.size, 4, .int .i64 n), (w.heap.size, 5, .int .i64 d), (w.heap.size, 6, .slice (some ⟨wc.heap.size, 0, none⟩) 0 0), (w.heap.size, 7, .int .i64 e), (w.heap.size + 1, 0, .int .i64 0), (w.heap.size + 1, 1, .slice none 0 0), (w.heap.size + 1, 2, .int .i64 0), (w.heap.size + 1, 3, .int .i64 0), (w.heap.size + 1, 4, .int .i64 0), (w.heap.size + 1, 5, .int .i64 0), (w.heap.size + 1, 6, .slice none 0 0), (w.heap.size + 1, 7, .int .i64 0)]) hK x1 (Nat.le_refl _) (.slice (some ⟨wc.heap.size, 0, none⟩) 0 0) (by simp [updL])).alloc (.cells #[] 2)
    have hr2 := owns_below (owns_low (i := 6) hr (show w.heap.size < w.heap.size + 2 by omega) (.slice (some ⟨wc.heap.size, 0, none⟩) 0 0)) (below_alloc _ (.cells #[] 2))
    have hz3 : w.heap.size + 2 ≤ ((wc.setCell ⟨w.heap.size, 6, none⟩ (.slice (some ⟨wc.heap.size, 0, none⟩) 0 0)).alloc (.cells #[] 2)).heap.size := by have := (below_alloc (wc.setCell ⟨w.heap.size, 6, none⟩ (.slice (some ⟨wc.heap.size, 0, none⟩) 0 0)) (.cells #[] 2)).size; omega
    go_wp2_with fail
    go_meet
    case rel => exact ⟨_, hK2, hz3, hr2, ho⟩
   | some ad =>
    by_cases g : V.length ≤ 300
    ·have HH : Hid (Reads .i64 wc (.slice (some ad) V.length c) (V.take 300)) := Lib.hid (by rw [List.take_of_length_le g]; exact hu2)
     have HT : Hid ((V.take 300).length = V.length) := Lib.hid (by rw [List.take_of_length_le g])
     have hm : min (V.length : Int) 300 = (V.length : Int) := by omega
     clear hk hu2
     generalize V.take 300 = m at *
     have FL := Lib.hid (show (m.map (Value.int .i64)).length = m.length by simp)
     go_wp2_with (at_builtin; refine wpList_append_own _ rfl _ _ 25 rfl wc.heap.size 2 j0 (.int .i64 0) 1 8 Tryz.underlying25 hj hy0 hy1 hy2 rfl (by decide) _ _ _ rfl (World.ownsRow_made wc #[] 0 (Nat.le_refl _) (Nat.zero_le _) rfl) ad V.length c (m.map (Value.int .i64)) rfl ?qc1 ?qc2 ?qc3 ?qc4 ?qc5 ?qc6 ?_)
     case qc1 => rw [FL.out, HT.out, Nat.mul_one]
     case qc2 => exact reads_addI (HH.out.below (below_alloc wc _))
     case qc3 => exact P7.ints_one m
     case qc4 => unfold maxLen; omega
     case qc5 => omega
     case qc6 => simp
     intro v9 w9 hown hgrow _
     obtain ⟨A9, n9, c9, rfl⟩ := own_sl hown
     have hb9 : Below wc.heap.size wc w9 := ((Below.refl _ wc).alloc (Nat.le_refl _) _).grown hgrow (by simp) (by intro k hk; simp [Value.ownBlock] at hk; omega)
     have hK2 := kupd (M := [(w.heap.size, 0, .int .i64 k), (w.heap.size, 1, v'), (w.heap.size, 2, .int .i64 a), (w.heap.size, 3, .int .i64 r), (w.heap.size, 4, .int .i64 n), (w.heap.size, 5, .int .i64 d), (w.heap.size, 6, .slice A9 n9 c9), (w.heap.size, 7, .int .i64 e), (w.heap.size + 1, 0, .int .i64 0), (w.heap.size + 1, 1, .slice none 0 0), (w.heap.size + 1, 2, .int .i64 0), (w.heap.size + 1, 3, .int .i64 0), (w.heap.size + 1, 4, .int .i64 0), (w.heap.size + 1, 5, .int .i64 0), (w.heap.size + 1, 6, .slice none 0 0), (w.heap.size + 1, 7, .int .i64 0)]) (hK.next hb9) ((hb9.cell (p := ⟨w.heap.size, 6, none⟩) (by omega)).trans x1) (Nat.le_refl _) (.slice A9 n9 c9) (by simp [updL])
     have ho : (w9.setCell ⟨w.heap.size, 6, none⟩ (.slice A9 n9 c9)).ownsRow (w.heap.size + 2) 2 1 (.slice A9 n9 c9) m.length (m.map (Value.int .i64)) := owns_less (owns_low (i := 6) (by rw [HT.out]; simpa using hown) (by omega) (.slice A9 n9 c9)) hz2'
     have hr2 := owns_low (i := 6) (owns_below hr hb9) (show w.heap.size < w.heap.size + 2 by omega) (.slice A9 n9 c9)
     have hz3 : w.heap.size + 2 ≤ (w9.setCell ⟨w.heap.size, 6, none⟩ (.slice A9 n9 c9)).heap.size := by have := hb9.size; simp [World.setCell]; omega
     have y0 : w.heap.size < w9.heap.size := Nat.lt_of_lt_of_le x0 hb9.size
     have y1 := (hb9.cell (p := ⟨w.heap.size, 6, none⟩) (by omega)).trans x1
     have y2 := (hb9.frozen (p := ⟨w.heap.size, 6, none⟩) (by omega)).trans x2
     clear HH hown hgrow hK
     go_wp2_with fail
     go_meet
     case rel => exact ⟨_, hK2, hz3, hr2, ho⟩
    ·have HH : Hid (Reads .i64 wc (.slice (some ad) 300 c) (V.take 300)) := Lib.hid (reads_takeI hu2 300 (by omega))
     have HT : Hid ((V.take 300).length = 300) := Lib.hid (by rw [List.length_take]; omega)
     have hm : min (V.length : Int) 300 = 300 := by omega
     have h3 : (300 : Int) ≤ (c : Int) := by omega
     have h4 : 300 ≤ c := by omega
     clear hk hu2
     generalize V.take 300 = m at *
     have FL := Lib.hid (show (m.map (Value.int .i64)).length = m.length by simp)
     go_wp2_with (at_builtin; refine wpList_append_own _ rfl _ _ 25 rfl wc.heap.size 2 j0 (.int .i64 0) 1 8 Tryz.underlying25 hj hy0 hy1 hy2 rfl (by decide) _ _ _ rfl (World.ownsRow_made wc #[] 0 (Nat.le_refl _) (Nat.zero_le _) rfl) ad 300 c (m.map (Value.int .i64)) rfl ?qc1 ?qc2 ?qc3 ?qc4 ?qc5 ?qc6 ?_)
     case qc1 => rw [FL.out, HT.out, Nat.mul_one]
     case qc2 => exact reads_addI (HH.out.below (below_alloc wc _))
     case qc3 => exact P7.ints_one m
     case qc4 => unfold maxLen; omega
     case qc5 => omega
     case qc6 => simp
     intro v9 w9 hown hgrow _
     obtain ⟨A9, n9, c9, rfl⟩ := own_sl hown
     have hb9 : Below wc.heap.size wc w9 := ((Below.refl _ wc).alloc (Nat.le_refl _) _).grown hgrow (by simp) (by intro k hk; simp [Value.ownBlock] at hk; omega)
     have hK2 := kupd (M := [(w.heap.size, 0, .int .i64 k), (w.heap.size, 1, v'), (w.heap.size, 2, .int .i64 a), (w.heap.size, 3, .int .i64 r), (w.heap.size, 4, .int .i64 n), (w.heap.size, 5, .int .i64 d), (w.heap.size, 6, .slice A9 n9 c9), (w.heap.size, 7, .int .i64 e), (w.heap.size + 1, 0, .int .i64 0), (w.heap.size + 1, 1, .slice none 0 0), (w.heap.size + 1, 2, .int .i64 0), (w.heap.size + 1, 3, .int .i64 0), (w.heap.size + 1, 4, .int .i64 0), (w.heap.size + 1, 5, .int .i64 0), (w.heap.size + 1, 6, .slice none 0 0), (w.heap.size + 1, 7, .int .i64 0)]) (hK.next hb9) ((hb9.cell (p := ⟨w.heap.size, 6, none⟩) (by omega)).trans x1) (Nat.le_refl _) (.slice A9 n9 c9) (by simp [updL])
     have ho : (w9.setCell ⟨w.heap.size, 6, none⟩ (.slice A9 n9 c9)).ownsRow (w.heap.size + 2) 2 1 (.slice A9 n9 c9) m.length (m.map (Value.int .i64)) := owns_less (owns_low (i := 6) (by rw [HT.out]; simpa using hown) (by omega) (.slice A9 n9 c9)) hz2'
     have hr2 := owns_low (i := 6) (owns_below hr hb9) (show w.heap.size < w.heap.size + 2 by omega) (.slice A9 n9 c9)
     have hz3 : w.heap.size + 2 ≤ (w9.setCell ⟨w.heap.size, 6, none⟩ (.slice A9 n9 c9)).heap.size := by have := hb9.size; simp [World.setCell]; omega
     have y0 : w.heap.size < w9.heap.size := Nat.lt_of_lt_of_le x0 hb9.size
     have y1 := (hb9.cell (p := ⟨w.heap.size, 6, none⟩) (by omega)).trans x1
     have y2 := (hb9.frozen (p := ⟨w.heap.size, 6, none⟩) (by omega)).trans x2
     clear HH hown hgrow hK
     go_wp2_with fail
     go_meet
     case rel => exact ⟨_, hK2, hz3, hr2, ho⟩
  case rest =>
   clear hK hr hu2 hz2'
   obtain ⟨u', hK, hz2', hr, hv⟩ := hcut
   obtain ⟨A1, n1, c1, rfl⟩ := own_sl hr
   obtain ⟨A2, n2, c2, rfl⟩ := own_sl hv
   obtain ⟨⟨kz0,kc0,kf0⟩,⟨kz1,kc1,kf1⟩,⟨kz2,kc2,kf2⟩,⟨kz3,kc3,kf3⟩,⟨kz4,kc4,kf4⟩,⟨kz5,kc5,kf5⟩,⟨kz6,kc6,kf6⟩,⟨kz7,kc7,kf7⟩,⟨kz8,kc8,kf8⟩,⟨kz9,kc9,kf9⟩,⟨kz10,kc10,kf10⟩,⟨kz11,kc11,kf11⟩,⟨kz12,kc12,kf12⟩,⟨kz13,kc13,kf13⟩,⟨kz14,kc14,kf14⟩,⟨kz15,kc15,kf15⟩,_⟩ := hK.2
   obtain ⟨d0, d1, d2, d3, d4, d5, d6, d7⟩ := set8 (u0 := .int .i64 k) (u1 := .slice A1 n1 c1) (u2 := .int .i64 a) (u3 := .int .i64 r) (u4 := .int .i64 n) (u5 := .int .i64 d) (u6 := .slice A2 n2 c2) (u7 := .int .i64 e) kc8 kc9 kc10 kc11 kc12 kc13 kc14 kc15
   have hB := hK.1
   have hP : Hid (∀ x0 x1 x2 x3 x4 x5 x6 x7, Below w.heap.size w ((((((((wc.setCell ⟨w.heap.size + 1, 0, none⟩ x0).setCell ⟨w.heap.size + 1, 1, none⟩ x1).setCell ⟨w.heap.size + 1, 2, none⟩ x2).setCell ⟨w.heap.size + 1, 3, none⟩ x3).setCell ⟨w.heap.size + 1, 4, none⟩ x4).setCell ⟨w.heap.size + 1, 5, none⟩ x5).setCell ⟨w.heap.size + 1, 6, none⟩ x6).setCell ⟨w.heap.size + 1, 7, none⟩ x7)) := Lib.hid fun _ _ _ _ _ _ _ _ => (((((((hB.setCell (by simp) _).setCell (by simp) _).setCell (by simp) _).setCell (by simp) _).setCell (by simp) _).setCell (by simp) _).setCell (by simp) _).setCell (by simp) _
   have hr2 := Lib.hid (fun x0 x1 x2 x3 x4 x5 x6 x7 => owns_less (B' := w.heap.size) (owns_low (i := 7) (owns_low (i := 6) (owns_low (i := 5) (owns_low (i := 4) (owns_low (i := 3) (owns_low (i := 2) (owns_low (i := 1) (owns_low (i := 0) hr (show w.heap.size + 1 < w.heap.size + 2 by omega) x0) (show w.heap.size + 1 < w.heap.size + 2 by omega) x1) (show w.heap.size + 1 < w.heap.size + 2 by omega) x2) (show w.heap.size + 1 < w.heap.size + 2 by omega) x3) (show w.heap.size + 1 < w.heap.size + 2 by omega) x4) (show w.heap.size + 1 < w.heap.size + 2 by omega) x5) (show w.heap.size + 1 < w.heap.size + 2 by omega) x6) (show w.heap.size + 1 < w.heap.size + 2 by omega) x7) (by omega))
   have hv2 := Lib.hid (fun x0 x1 x2 x3 x4 x5 x6 x7 => owns_less (B' := w.heap.size) (owns_low (i := 7) (owns_low (i := 6) (owns_low (i := 5) (owns_low (i := 4) (owns_low (i := 3) (owns_low (i := 2) (owns_low (i := 1) (owns_low (i := 0) hv (show w.heap.size + 1 < w.heap.size + 2 by omega) x0) (show w.heap.size + 1 < w.heap.size + 2 by omega) x1) (show w.heap.size + 1 < w.heap.size + 2 by omega) x2) (show w.heap.size + 1 < w.heap.size + 2 by omega) x3) (show w.heap.size + 1 < w.heap.size + 2 by omega) x4) (show w.heap.size + 1 < w.heap.size + 2 by omega) x5) (show w.heap.size + 1 < w.heap.size + 2 by omega) x6) (show w.heap.size + 1 < w.heap.size + 2 by omega) x7) (by omega))
   clear hK hB hr hv
   go_wp2_with fail
   refine bodyPost_ret (v := sgV k (.slice A1 n1 c1) a r n d (.slice A2 n2 c2) e) (by simp [results, Tryz.results15, go_sem, d0, d1, d2, d3, d4, d5, d6, d7]) rfl ?_
   exact ⟨_, _, rfl, hP.out _ _ _ _ _ _ _ _, ⟨hr2.out _ _ _ _ _ _ _ _, hv2.out _ _ _ _ _ _ _ _⟩⟩
end Go.Proofs.YtcfidimnbamnkaaGreat.P11
