/- Rows of whole numbers that the call makes. -/
import Derived.Test.YtihdgfihdecalaaGreatDoorRowsA
import Derived.Test.YtihdgfihdecalaaGreatDoorBoxA
import Derived.Test.YtihdgfihdecalaaGreatDoorBmA
namespace Go.Proofs.YtihdgfihdecalaaGreatDoor
open Go.RowKit
open Plain
set_option linter.unusedVariables false

theorem Tryz.infoIntR : (Tryz.prog.info? 3).map (fun i => (i.zero, i.size, i.bytes)) = some (some (.int .i64 0), 1, 8) := by kernel_rfl
def intsC (l : List Int) : List Value := l.map (Value.int .i64)
theorem intsC_len (l : List Int) : (intsC l).length = l.length := by simp [intsC]
theorem intsC_append (a b : List Int) : intsC (a ++ b) = intsC a ++ intsC b := by simp [intsC]
theorem intsC_get {l : List Int} {k : Nat} {x : Int} (h : l[k]? = some x) : (intsC l)[k]? = some (.int .i64 x) := by simp [intsC, h]
def OwnI (B : Nat) (w : World) (v : Value) (l : List Int) : Prop := w.ownsRow B 3 1 v l.length (intsC l)
theorem OwnI.nil (B : Nat) (w : World) : OwnI B w (.slice none 0 0) [] := ⟨rfl, .inl ⟨rfl, rfl⟩⟩
theorem OwnI.up {B : Nat} {w w' : World} {v : Value} {l : List Int} (h : OwnI B w v l) (hb : Below w.heap.size w w') : OwnI B w' v l := g_stays h hb
theorem OwnI.based {B B' : Nat} {w : World} {v : Value} {l : List Int} (h : OwnI B w v l) (hB : B' ≤ B) : OwnI B' w v l := g_based h hB
theorem OwnI.drew {B : Nat} {w : World} {v : Value} {l : List Int} (h : OwnI B w v l) : OwnI B w.drew v l := h
theorem OwnI.snoc {B : Nat} {w : World} {v : Value} {l : List Int} {x : Int} (h : w.ownsRow B 3 1 v (l.length + 1) (intsC l ++ [.int .i64 x])) : OwnI B w v (l ++ [x]) := by
  unfold OwnI
  rw [intsC_append, List.length_append]
  exact h
theorem OwnI.cell {B : Nat} {w : World} {v : Value} {l : List Int} (h : OwnI B w v l) {k : Nat} {x : Int} (hx : l[k]? = some x) : ∃ g c, v = .slice (some ⟨g, 0, none⟩) l.length c ∧ B ≤ g ∧ g < w.heap.size ∧ w.cell? ⟨g, k, none⟩ = some (.int .i64 x) := by
  have hk : k < l.length := (List.getElem?_eq_some_iff.1 hx).1
  rcases h.2 with ⟨_, h0⟩ | ⟨g, c, cur, rfl, hB, hh, hc, _, hs, ht⟩
  · omega
  · refine ⟨g, c, rfl, hB, (h.lt g rfl).2, ?_⟩
    have e : cur.toList[k]? = some (.int .i64 x) := by
      have := intsC_get hx
      rw [← ht, List.getElem?_take_of_lt (by omega)] at this
      exact this
    have e2 : cur[k]? = some (.int .i64 x) := by rw [← Array.getElem?_toList]; exact e
    simp [World.cell?, hh, e2]
theorem newsC {w : World} (t : TypeId) (l : List Value) : ∀ j u, l[j]? = some u → (w.alloc (.cells l.toArray t)).cell? ((⟨w.heap.size, 0, none⟩ : Addr).add j) = some u := fun j u hj => by
  rw [Addr.add_lit, Nat.zero_add]
  exact (HasObj.new w t l).cell j hj
theorem OwnMl.snoc {B : Nat} {w : World} {v : Value} {l : List Ml} {x : Ml} (h : w.ownsRow B 55 4 v (l.length + 1) (rowC mlC l ++ mlC x)) : OwnMl B w v (l ++ [x]) := by
  unfold OwnMl
  rw [rowC_snoc, List.length_append]
  exact h
theorem OwnTb.snoc {B : Nat} {w : World} {v : Value} {l : List Tb} {x : Tb} (h : w.ownsRow B 81 2 v (l.length + 1) (rowC tbC l ++ tbC x)) : OwnTb B w v (l ++ [x]) := by
  unfold OwnTb
  rw [rowC_snoc, List.length_append]
  exact h
end Go.Proofs.YtihdgfihdecalaaGreatDoor
