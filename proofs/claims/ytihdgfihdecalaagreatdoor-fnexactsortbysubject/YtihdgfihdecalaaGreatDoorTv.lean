/- A drawing region's operations, taken in short words. Nothing of the program stands here. -/
import Derived.Test.YtihdgfihdecalaaGreatDoorRegA
import Derived.WalkKit
namespace Go.Proofs.YtihdgfihdecalaaGreatDoor
open Go
section
variable {P : Program} {ops : Array Oper} {Q : Exit → Act → World → Prop} {md : Region.Mode} {S : World → Prop}
theorem p1 {α : Type} (l : List α) (i : Nat) (a : α) : l.toArray.setIfInBounds i a = (l.set i a).toArray := List.setIfInBounds_toArray ..
theorem p2 {α : Type} {a b : α} {as : List α} : (a :: as).set 0 b = b :: as := rfl
theorem p3 {α : Type} {n : Nat} {a b : α} {as : List α} : (a :: as).set (n + 1) b = a :: as.set n b := rfl
theorem lt {z : Nat} (i : Nat) (d : Tmp) {v : Value} {oi : Oper} {fuel : Nat} {listed : Array Bool} {a a2 : Act} {w : World}
    (h : wpLate P ops Q S z fuel (listed.setIfInBounds i true) a2 w) (hi : ops[i]? = some oi := by exact rfl) (hd : oi.dst = some d := by exact rfl)
    (hs : Region.noSelect ops = true := by kernel_rfl) (hf : Region.free .any ops listed i = true := by kernel_rfl) (hl : lateOk ops listed z i = true := by kernel_rfl) (hr : (Region.ready .any ops listed).contains i = true := by kernel_rfl)
    (hw : Region.wanted oi (yielded ops a.tmps) = true := by rfl) (hS : S w := by assumption)
    (hy : ∀ w, S w → (execOp a.eval oi).run P w = .ok (.value v) w := by (intro w hSw; (try dsimp only at hSw); refine Eq.trans (b := ?_) ?_ ?_; rotate_left; (go_simp <;> with_reducible rfl); with_reducible rfl))
    (he : a.put (some d) v = a2 := by (simp only [Act.put, p1, p2, p3]; (try with_reducible rfl)))
    (hQ : ∀ c a w, Q (.panic c) (a.put (some d) v) w → Q (.panic c) a w := by exact fun _ _ _ h => h) : wpLate P ops Q S z (fuel + 1) listed a w := lateTake i (some d) v hi hs hf hl hr hd hQ hw hS hy (he ▸ h)
end
end Go.Proofs.YtihdgfihdecalaaGreatDoor
