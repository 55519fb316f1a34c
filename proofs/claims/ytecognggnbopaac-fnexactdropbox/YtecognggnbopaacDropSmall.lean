/- What DropBox answers has no more than what it was made of. -/
import Derived.Test.YtecognggnbopaacDropPlain
import Derived.Test.YtecognggnbopaacStoreLaws1
namespace Go.Proofs.Ytecognggnbopaac
open Plain
namespace Plain
theorem sizeBs_filter (p : Bx → Bool) (l : List Bx) : sizeBs (l.filter p) ≤ sizeBs l := by
  induction l with
  | nil => exact Nat.le_refl _
  | cons x l ih =>
    rw [List.filter_cons]
    split
    · simp only [sizeBs, List.map_cons, List.sum_cons] at *; omega
    · simp only [sizeBs, List.map_cons, List.sum_cons] at *; omega
theorem dropV_small (s : Sx) (n : ByteArray) (h : SmallBs 1048576 s.boxes) : SmallA (dropV s n).1.boxes := by
  have h0 := h.a
  have h1 : SmallA (dropL s.boxes n) := ⟨Nat.le_trans (sizeBs_filter _ _) h0.sum, fun b hb => h0.each b (List.mem_filter.1 hb).1⟩
  unfold dropV
  split
  · exact h0
  · split
    · exact h0
    · split
      · exact h0
      · exact h1
end Plain
end Go.Proofs.Ytecognggnbopaac
