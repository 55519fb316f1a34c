/- The program's SetJoin. -/
import Derived.Test.YtkmphclmealkeabUnited
import Derived.Test.YtkmphclmealkeabImplPut
namespace Go.Proofs.Ytkmphclmealkeab
open Go.RowKit Go.Deep
open Plain
set_option linter.unusedVariables false

theorem impl_SetJoin_any (s t : List Rg) (v u : Value) (w : World) (hs : s.length ≤ 1048576) (ht : t.length ≤ 1048576) (h : ReadO w v s) (hu : ReadO w u t) :
    Calls Try.prog 18 #[v, u] w fun e w' => ∃ v', e = .returned (.tuple #[v', .bool (twoV s t false).2]) ∧ OwnR w.heap.size w' v' (twoV s t false).1 ∧ Below w.heap.size w w' := by
  obtain ⟨a, c, rfl, _, _⟩ := id h
  obtain ⟨b, d, rfl, _, _⟩ := id hu
  have H := hide h
  have HU := hide hu
  clear h hu
  have OK := hide (impl_SetOk_any s (.slice a s.length c) w hs (unhide H))
  have OK2 := hide (fun W h => impl_SetOk_any t (.slice b t.length d) W ht h)
  cases hok : okS s with
  | false =>
    have PN := hide (two_no (a := s) (b := t) (c := false) (fun h => by rw [hok] at h; cases h.1))
    rw [hok] at OK
    go_enter Try.func18, Try.ntmps18
    go_wp2_with fail
    refine (unhide OK).mono ?_
    rintro e w1 ⟨rfl, hb1⟩
    go_wp2
    go_ret2
    exact ⟨_, by rw [unhide PN]; rfl, by rw [unhide PN]; exact ⟨rfl, .inl ⟨rfl, rfl⟩⟩, hb1⟩
  | true =>
    rw [hok] at OK
    cases hok2 : okS t with
    | false =>
      have PN := hide (two_no (a := s) (b := t) (c := false) (fun h => by rw [hok2] at h; cases h.2))
      rw [hok2] at OK2
      go_enter Try.func18, Try.ntmps18
      go_wp2_with fail
      refine (unhide OK).mono ?_
      rintro e w1 ⟨rfl, hb1⟩
      have Q2 := hide (unhide OK2 w1 ((unhide HU).up hb1))
      go_wp2_with fail
      refine (unhide Q2).mono ?_
      rintro e w2 ⟨rfl, hb2⟩
      go_wp2
      go_ret2
      exact ⟨_, by rw [unhide PN]; rfl, by rw [unhide PN]; exact ⟨rfl, .inl ⟨rfl, rfl⟩⟩, below2 hb1 hb2⟩
    | true =>
      rw [hok2] at OK2
      have TJ := hide (fun l hl hp => two_join (l := l) hok hok2 hl hp)
      have h1 := okS_from hok
      have h2 := okS_from hok2
      have RR : Hid (∀ r ∈ s ++ t, rightR r) := fun r hr => by
        rcases List.mem_append.1 hr with h | h
        · exact (okFrom_each h1 r h).2
        · exact (okFrom_each h2 r h).2
      go_enter Try.func18, Try.ntmps18
      go_wp2_with fail
      refine (unhide OK).mono ?_
      rintro e w1 ⟨rfl, hb1⟩
      have Q2 := hide (unhide OK2 w1 ((unhide HU).up hb1))
      go_wp2_with fail
      refine (unhide Q2).mono ?_
      rintro e w2 ⟨rfl, hb2⟩
      have hW2 := below2 hb1 hb2
      have M2 := hide (impl_moved_two (.slice a s.length c) (.slice b t.length d) s t w2 (by omega) ((unhide H).up hW2) ((unhide HU).up hW2))
      clear hb1 hb2 OK OK2 Q2
      go_wp2_with fail
      refine (unhide M2).mono ?_
      rintro e w3 ⟨r3, rfl, o3, hb3, g3, n3, c3, rfl⟩
      have en : n3 = (s ++ t).length := by
        obtain ⟨x, y, hxy⟩ := g_shape o3
        exact (Value.slice.inj hxy).2.1
      subst en
      have hW3 : Below w.heap.size w w3 := hW2.trans (hb3.mono hW2.size)
      have O3 := g_based o3 hW2.size
      have UN := hide (impl_united_any (s ++ t) g3 c3 w.heap.size w3 (by simp; omega) (unhide RR) O3 hW3.size)
      clear o3 O3 M2 hb3
      generalize hn : (s ++ t).length = n at *
      have HN := hide hn
      clear hn
      go_wp2_with fail
      refine (unhide UN).mono ?_
      rintro e w4 ⟨u4, l4, rfl, p4, q4, o4, hb4⟩
      have hW4 : Below w.heap.size w w4 := hW3.trans hb4
      have TV := hide (unhide TJ l4 p4 q4)
      have hl4 : (unitedL l4).length ≤ 1048576 * 2 := by
        have := united_len l4 l4.length
        rw [List.take_length, p4.length_eq] at this
        simp at this
        omega
      have ON := hide (impl_orNothing_any (unitedL l4) u4 w3.heap.size w4 (by omega) o4)
      obtain ⟨a4, c4, rfl⟩ := g_shape o4
      clear o4 p4 q4
      go_wp2_with fail
      refine (unhide ON).mono ?_
      rintro e w5 ⟨v5, rfl, o5, hb5⟩
      have O5 : Hid (OwnR w.heap.size w5 v5 (twoV s t false).1) := by rw [unhide TV]; exact g_based o5 hW3.size
      have E5 : Hid ((orNo (unitedL l4)).2 = (twoV s t false).2) := by rw [unhide TV]; rfl
      clear o5
      generalize (orNo (unitedL l4)).2 = d5 at *
      go_wp2
      go_ret2
      exact ⟨v5, by rw [← unhide E5]; rfl, unhide O5, hW4.trans (hb5.mono hW4.size)⟩
end Go.Proofs.Ytkmphclmealkeab
