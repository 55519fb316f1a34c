/- Lists of package variables that a reading takes, one by one. -/
import Derived.Lib.LaidTab
import Derived.WalkSmall
namespace Go.Proofs.YtocaljbimhjmgaaGreatDoor

theorem laid_tail {P : Program} {W : World} {x : String × DataW Unit} {rest : List (String × DataW Unit)} (h : laidMet P (x :: rest) W) : laidMet P rest W := by
  obtain ⟨n, d⟩ := x
  obtain ⟨ps, ⟨g, t, cs, fuel, p, q, h1, h2, h3, h4, h5, h6⟩, hn, hc⟩ := h
  subst h6
  exact ⟨q, h5, (List.nodup_append.1 hn).2.1, fun b off hb => hc b off (List.mem_append.2 (.inr hb))⟩
end Go.Proofs.YtocaljbimhjmgaaGreatDoor
