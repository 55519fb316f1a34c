/- What MakeBox answers has hardly more than what it was made of. -/
import Derived.Test.YtanapiaobpoebaaMakePlain
import Derived.Test.YtanapiaobpoebaaStoreLaws1
namespace Go.Proofs.Ytanapiaobpoebaa
open Plain
namespace Plain
theorem sizeBs_app (l m : List Bx) : sizeBs (l ++ m) = sizeBs l + sizeBs m := by
 unfold sizeBs
 rw [List.map_append, List.sum_append]
theorem sizeBs_two (n : ByteArray) (l : List Bx) : sizeBs (l.filter fun b => ltB b.name n) + sizeBs (l.filter fun b => ltB n b.name) ≤ sizeBs l := by
 induction l with
 | nil => exact Nat.le_refl _
 | cons x l ih =>
  rw [List.filter_cons, List.filter_cons]
  cases h1 : ltB x.name n with
  | true =>
   rw [ltB_asymm h1]
   simp only [sizeBs, List.map_cons, List.sum_cons, if_true, Bool.false_eq_true, if_false] at *
   omega
  | false =>
   cases h2 : ltB n x.name <;> (simp only [sizeBs, List.map_cons, List.sum_cons, if_true, Bool.false_eq_true, if_false] at *; omega)
theorem makeV_small (s : Sx) (n : ByteArray) (h : SmallBs 1048576 s.boxes) : SmallA (makeV s n).1.boxes := by
 have h0 := h.a
 have h1 : SmallA (madeL s.boxes n s.valid) := by
  refine ⟨?_, fun b hb => ?_⟩
  ·unfold madeL
   rw [sizeBs_app, show newBox n s.valid :: s.boxes.filter (fun b => ltB n b.name) = [newBox n s.valid] ++ s.boxes.filter (fun b => ltB n b.name) from rfl, sizeBs_app]
   have q1 := sizeBs_two n s.boxes; have q2 := h.sum
   have q3 : sizeBs [newBox n s.valid] = 1 := rfl
   omega
  ·unfold madeL at hb
   rcases List.mem_append.1 hb with hb | hb
   ·exact h0.each b (List.mem_filter.1 hb).1
   ·rcases List.mem_cons.1 hb with rfl | hb
    ·exact ⟨Nat.zero_le _, Nat.zero_le _⟩
    ·exact h0.each b (List.mem_filter.1 hb).1
 unfold makeV
 split
 ·exact h0
 ·split
  ·exact h0
  ·split
   ·exact h0
   ·exact h1
end Plain
end Go.Proofs.Ytanapiaobpoebaa
