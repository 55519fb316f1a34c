/- FnExactUnframe's walk. -/
import Derived.Test.YtnlcknklghalkaaDoorUnframeI
import Derived.Test.YtnlcknklghalkaaDoorMarks
namespace Go.Proofs.YtnlcknklghalkaaDoor
open Go.RowKit
open Plain
set_option linter.unusedVariables false

theorem own_belowF {w w1 : World} {B B0 n : Nat} {e : TypeId} {size : Nat} {v : Value} {xs : List Value} (h : w.ownsRow B0 e size v n xs) (hb : Below B w w1) (hlt : ∀ k, v.ownBlock = some k → k < B) : w1.ownsRow B0 e size v n xs := by
  refine ⟨h.1, ?_⟩
  rcases h.2 with h2 | ⟨g, cap, cur, h1, h2, h3, h4⟩
  · exact .inl h2
  · exact .inr ⟨g, cap, cur, h1, h2, by rw [hb.block g (hlt g (by rw [h1]; rfl))]; exact h3, h4⟩

set_option maxHeartbeats 1600000 in
set_option maxRecDepth 100000 in
theorem unframe_walk (a0 : ByteArray) (w : World) (HT : Hid (Tabbed w)) :
    Calls Tryd.prog 5 #[.string a0] w fun e w' => e = .returned (.bool true) ∧ Below w.heap.size w w' := by
  by_cases hs : a0.size ≤ 1048576
  · have hn10 := unL_len a0.data.toList
    go_enter Tryd.func5, Tryd.ntmps5
    go_wp2_with fail
    refine (spec_Unframe_any a0 w hs).mono ?_
    rintro e w1 ⟨v1, rfl, own1, hb1⟩
    have B1 := hide hb1
    have ht1 := hide ((unhide HT).below hb1)
    have lt1 := hide (fun k hk => (own1.lt k hk).2)
    go_wp2_with fail
    refine (impl_Unframe_any a0 w1 hs (unhide ht1)).mono ?_
    rintro e w2 ⟨v2, rfl, own2, hb2⟩
    have own1b := own_below own1 hb2
    have B2 := hide (below2 hb1 hb2)
    have cI := hide (fun wx hx => impl_Unframe_any a0 wx hs hx)
    unfold UnLeft at cI
    rw [← recs_len (unL a0.data.toList)] at own1 own1b own2 cI hn10
    generalize hn : (recs (unL a0.data.toList)).length = n at *
    generalize recs (unL a0.data.toList) = ps at *
    generalize endL (unL a0.data.toList) = ok at *
    have hn' := hide hn
    have O1 := hide own1b
    have O2 := hide own2
    have hsz2 := hide hb2.size
    have hsz1 := hide hb1.size
    clear own1 own1b own2 hb1 hb2 hn
    go_wp2_with fail
    refine (eqStringS_same ps v2 v1 _ _ n w2 (unhide hn').symm (by omega) (unhide O2) (unhide O1)).mono ?_
    rintro e w3 ⟨rfl, z, rfl⟩
    go_wp2_with fail
    have e2 : ps.length = n := unhide hn'
    subst e2
    refine (markStringS_any ps v2 w1.heap.size 1 (w2.drewN z) (by omega) (by omega) (by omega) (unhide hsz2) (unhide O2)).mono ?_
    rintro e w3 ⟨rfl, own3, hb3⟩
    have O1c := hide (own_belowF (w := w2.drewN z) (unhide O1) hb3 (unhide lt1))
    have B3 := hide ((below_drewN (unhide B2) z).trans (hb3.mono (unhide hsz1)))
    have O3 := hide own3
    have hsz3 : Hid (w1.heap.size ≤ w3.heap.size) := Nat.le_trans (unhide hsz2) hb3.size
    clear own3 hb3
    go_wp2_with fail
    refine (heldStringS_any ps.length v2 w1.heap.size 1 w3 (by omega) (by omega) (by omega) (unhide O3)).mono ?_
    rintro e w4 ⟨rfl, hb4⟩
    have O3d := hide (own_below (unhide O3) hb4)
    have O1d := hide (own_below (unhide O1c) hb4)
    have B4 := hide ((unhide B3).trans (hb4.mono (unhide B3).size))
    clear hb4
    have ht4 := hide ((unhide HT).below (unhide B4))
    go_wp2_with fail
    refine (unhide cI w4 (unhide ht4)).mono ?_
    rintro e w5 ⟨v3, rfl, own5, hb5⟩
    have O3e := hide (own_below (unhide O3d) hb5)
    have O1e := hide (own_below (unhide O1d) hb5)
    have B5 := hide ((unhide B4).trans (hb5.mono (unhide B4).size))
    have O5 := hide own5
    clear own5 hb5
    go_wp2_with fail
    refine (eqStringS_same ps v3 v1 _ _ ps.length w5 rfl (by omega) (unhide O5) (unhide O1e)).mono ?_
    rintro e w6 ⟨rfl, y, rfl⟩
    go_wp2_with fail
    refine (heldStringS_any ps.length v2 w1.heap.size 1 (w5.drewN y) (by omega) (by omega) (by omega) (unhide O3e)).mono ?_
    rintro e w7 ⟨rfl, hb7⟩
    have B7 := hide ((below_drewN (unhide B5) y).trans (hb7.mono (unhide B5).size))
    clear hb7
    go_wp2
    go_ret
    exact ⟨rfl, unhide B7⟩
  · go_enter Tryd.func5, Tryd.ntmps5
    go_wp2
    go_ret
    exact ⟨rfl, Below.refl _ _⟩
end Go.Proofs.YtnlcknklghalkaaDoor
