/-
  The law SpanAdds' answer. Conditions: those written at each fact.
-/
import Derived.Test.YtmnndbafljngiaaAdB
namespace Go.Proofs.Ytmnndbafljngiaa
open Go.RowKit

set_option maxRecDepth 100000 in
set_option maxHeartbeats 4000000 in
theorem adds_none (v : Value) (m : Int) (w : World) (GU : ∀ W, Below w.heap.size w W → Calls Try.prog 40 #[v] W (GotG W [])) : Calls Try.prog 8 #[v, .int .i64 m] w (Ret w (.bool true)) := by
  have WK := Lib.hid (fun W => wakes_any W)
  replace GU := Lib.hid GU
  have PL := Lib.hid (fun v W k => (show Calls Try.prog 33 #[v] W (Ret W (.tuple #[spV 0 0, .int .i64 0])) from by
    have h := plus_any [] (by intro s hs; simp at hs) (by simp) v W k
    rw [addsI_plus addsI_nil (by simp)] at h
    exact h))
  have HSa := Lib.hid (fun W => (has_any 0 0 0 W : Calls Try.prog 15 #[spV 0 0, .int .i64 0] W (Ret W (.bool true))))
  have WD := Lib.hid (fun W => (width_any 0 0 (by decide) (by decide) W : Calls Try.prog 18 #[spV 0 0] W (Ret W (.int .u64 0))))
  go_enter Try.func8, Try.ntmps8
  go_wp2_with fail
  refine (WK.out _).mono ?_
  rintro e w1 ⟨rfl, hb1⟩
  have HB1 := Lib.hid hb1
  clear hb1
  go_wp2_with fail
  refine (GU.out _ HB1.out).mono ?_
  rintro e w2 ⟨v1, v2, rfl, hb2, ho1, ho2⟩
  have RS := readsS_own (l := []) ho1
  obtain ⟨A, c, rfl⟩ : ∃ A c, v1 = .slice A 0 c := by
    obtain ⟨A, c, e, _⟩ := RS
    exact ⟨A, c, e⟩
  have HB2 := Lib.hid (under HB1.out hb2)
  replace RS := Lib.hid RS
  clear hb2 ho1 ho2
  go_wp2_with fail
  go_loopw [7, 8, 9, 32] (fun _ v8 v9 i wr => v8 = .int .i64 0 ∧ v9 = .int .u64 0 ∧ i = .int .i64 0 ∧ Below w2.heap.size w2 wr) (fun _ _ _ _ _ => 0)
  case atStart => exact ⟨rfl, rfl, rfl, Below.refl _ _⟩
  case round =>
    obtain ⟨rfl, rfl, rfl, hB⟩ := hrel
    go_wp2_with fail
    refine (PL.out _ _ (ReadsS.below RS.out hB)).mono ?_
    rintro e w3 ⟨rfl, hb⟩
    have hHeld : Keeps wr [] w3 := ⟨hb, trivial⟩
    clear hb
    go_wp2_with fail
    refine (HSa.out _).mono ?_
    rintro e w7 ⟨rfl, hb⟩
    replace hHeld : Keeps wr [(w3.heap.size, 0, .int .i64 0), (w3.heap.size, 1, .int .i64 0)] w7 := Keeps.next ((hHeld.alloc (.cells #[.int .i64 0, .int .i64 0] 23)).app (newK2 (hHeld.alloc (.cells #[.int .i64 0, .int .i64 0] 23)))) hb
    clear hb
    obtain ⟨⟨kz0, kc0, kf0⟩, ⟨kz1, kc1, kf1⟩, _⟩ := hHeld.2
    go_wp2_with fail
    refine (WD.out _).mono ?_
    rintro e w8 ⟨rfl, hb⟩
    have HB8 := Lib.hid (under hB (hHeld.next hb).1)
    clear hb hHeld kz0 kc0 kf0 kz1 kc1 kf1
    obtain ⟨w20, hw2⟩ : ∃ W, W = w2 := ⟨_, rfl⟩
    subst hw2
    go_wp2_with fail
    go_loopw [117] (fun i wq => i = .int .i64 0 ∧ Below w20.heap.size w20 wq) (fun _ _ => 0)
    case atStart => exact ⟨rfl, HB8.out⟩
    case round =>
      obtain ⟨rfl, hB⟩ := hrel
      go_wp2_with fail
      go_ret
      exact ⟨rfl, under HB2.out hB⟩
theorem adds_any (G : List (Int × Int × Int)) (hG : OkG G) (hl : G.length ≤ 9223372036854775807) (v : Value) (w : World) (h : ReadsG w v G) (m : Int) (m1 : -9223372036854775808 ≤ m) (m2 : m ≤ 9223372036854775807) : Calls Try.prog 8 #[v, .int .i64 m] w (Ret w (.bool true)) := by
  by_cases hne : keptG G = []
  · exact adds_none v m w (fun W hW => by have := guesses_any G hG hl v W (h.below hW); rwa [hne] at this)
  · have L := keptG_length G
    have l0 : 0 < (keptG G).length := List.length_pos_iff.2 hne
    have hn : (spansG (keptG G)).length = (keptG G).length := by unfold spansG; rw [List.length_map]
    have hGl : 0 < G.length := by
      cases G with
      | nil => exact absurd rfl hne
      | cons a t => simp
    have h0 := h
    obtain ⟨A, c, rfl, hk⟩ := h0
    obtain ⟨s0, hs0⟩ : ∃ s, G[0]? = some s := ⟨_, List.getElem?_eq_getElem hGl⟩
    obtain ⟨b, off, rfl, hb, e1, e2, e3⟩ := hk 0 _ hs0
    have hg := hG _ (List.mem_of_getElem? hs0)
    simp only [Nat.zero_mul, Nat.add_zero] at e3
    refine adds_walk (spansG (keptG G)) _ rfl (by omega) (by omega) ?_ m m1 m2 b off _ c s0.2.2 hg.2.2.2.2.1 hg.2.2.2.2.2 hGl w hb e3 (fun W hW => ?_)
    · intro s hs
      unfold spansG keptG at hs
      obtain ⟨t, ht, rfl⟩ := List.mem_map.1 hs
      have := hG t (List.mem_of_mem_take (List.mem_filter.1 ht).1)
      exact ⟨this.1, this.2.1, this.2.2.1, this.2.2.2.1⟩
    · refine (guesses_own G hG hl _ W (ReadsG.below h hW) hne).mono ?_
      rintro e w' ⟨g1, c1, v2, rfl, hb, h1, _, _, hc⟩
      exact ⟨g1, c1, v2, rfl, hb, h1, hc⟩
end Go.Proofs.Ytmnndbafljngiaa
