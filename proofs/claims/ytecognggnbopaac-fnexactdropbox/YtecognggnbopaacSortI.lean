/- Whole numbers, sorted and made one where they are the same: slices.Sort and slices.Compact at rows of one's own. -/
import Derived.Test.YtecognggnbopaacIntRow
import Derived.Test.YtecognggnbopaacSortL
import Derived.Shelf.SortM.Plain
import Derived.Shelf.SortM.SortNone
import Derived.Shelf.SlicesG.CompactI
namespace Go.Proofs.Ytecognggnbopaac
open Go.RowKit Go.Shelf Go.Sort
set_option linter.unusedVariables false

theorem growB {B : Nat} {w : World} {os : Array Obj} (hB : B ≤ w.heap.size) : RowKit.Below B w (grow w os) := ⟨rfl, rfl, rfl, by simp [grow], fun k hk => heap_grow_old w os (by omega)⟩
theorem putB {g off B : Nat} {w : World} {d : Array Int} (hB : B ≤ g) : RowKit.Below B w (putRow (Value.int .i64) w g off d) := by
  refine ⟨rfl, rfl, rfl, by simp, fun k hk => ?_⟩
  unfold putRow mapBlock
  simp only [Array.getElem?_modify]
  rw [if_neg (by omega)]
theorem aheadB {B n : Nat} {w : World} : RowKit.Below B w (Sort.ahead w n) := ⟨rfl, rfl, rfl, Nat.le_refl _, fun k hk => rfl⟩
theorem own_holds {B g c : Nat} {w : World} {l : List Int} (h : OwnI B w (.slice (some ⟨g, 0, none⟩) l.length c) l) : Holds (Value.int .i64) w g 0 l.toArray := by
  intro j hj
  have hj2 : j < l.length := by simpa using hj
  refine ⟨?_, World.ownsRow.frozenAt h _⟩
  rw [Nat.zero_add, World.ownsRow.cellAt h j (by omega), intsC_get (List.getElem?_eq_getElem hj2), getElem!_pos l.toArray j hj]
  simp
/-- What stands in a row, whatever else. -/
def ReadI (B : Nat) (w : World) (v : Value) (l : List Int) : Prop := ∃ a c, v = .slice a l.length c ∧ (l = [] ∨ ∃ g, a = some ⟨g, 0, none⟩ ∧ B ≤ g ∧ l.length ≤ c ∧ Holds (Value.int .i64) w g 0 l.toArray)
theorem sortInts_any (l : List Int) (v : Value) (B : Nat) (w : World) (hs : l.length ≤ 4000000) (hB : B ≤ w.heap.size) (h : OwnI B w v l) :
    Calls Try.prog 93 #[v] w fun e w' => e = .returned (.tuple #[]) ∧ (∃ t, t.Perm l ∧ t.Pairwise (fun x y => x ≤ y) ∧ ReadI B w' v t) ∧ RowKit.Below B w w' := by
  rcases h.2 with ⟨rfl, h0⟩ | ⟨g, c, cur, rfl, hg, hh, hc, _⟩
  · have e0 : l = [] := List.length_eq_zero_iff.1 h0
    have hcon := AnyM.slices_Sort_int_none Try.laysSortI none 0 w
    change Calls Try.prog 93 _ _ _ at hcon
    refine Calls.mono hcon ?_
    rintro e w' ⟨rfl, rfl⟩
    exact ⟨rfl, ⟨[], by rw [e0], List.Pairwise.nil, none, 0, rfl, .inl rfl⟩, RowKit.Below.refl _ _⟩
  · have hgl := (h.lt g rfl).2
    have HH := own_holds h
    have hcon := AnyM.slices_Sort_int Try.laysSortI g 0 c l w HH hgl (by omega)
    change Calls Try.prog 93 _ _ _ at hcon
    refine Calls.mono hcon ?_
    rintro e w' ⟨rfl, n, os, rfl⟩
    have hp : (l.mergeSort fun x y => decide (x ≤ y)).Perm l := List.mergeSort_perm l _
    have hlen := hp.length_eq
    refine ⟨rfl, ⟨_, hp, ?_, some ⟨g, 0, none⟩, c, by rw [hlen], .inr ⟨g, rfl, hg, by omega, ?_⟩⟩, ?_⟩
    · have := List.pairwise_mergeSort (le := fun x y : Int => decide (x ≤ y)) (fun a b c h1 h2 => by simp at *; omega) (fun a b => by simp; omega) l
      exact this.imp (fun h => by simpa using h)
    · exact holds_grow _ _ os g 0 _ (by simpa using hgl) (holds_putRow _ (Sort.ahead w n) g 0 l.toArray _ HH (by simp [hlen]))
    · exact (aheadB.trans (putB hg)).trans (growB (by simpa using hB))
theorem compactInts_any (l : List Int) (v : Value) (B : Nat) (w : World) (hs : l.length ≤ 4000000) (h : ReadI B w v l) :
    Calls Try.prog 94 #[v] w fun e w' => ∃ a c, e = .returned (.slice a (Lib.compact l).length c) ∧ RowKit.Below B w w' := by
  obtain ⟨a, c, rfl, h0 | ⟨g, rfl, hg, hc, HH⟩⟩ := h
  · subst h0
    have hcon := AnyG.slices_Compact_int_empty Try.laysCompI a c w
    change Calls Try.prog 94 _ _ _ at hcon
    refine Calls.mono hcon ?_
    rintro e w' ⟨rfl, rfl⟩
    exact ⟨a, c, rfl, RowKit.Below.refl _ _⟩
  · have hcon := AnyG.slices_Compact_int Try.laysCompI g 0 c l w HH (by omega) hc
    change Calls Try.prog 94 _ _ _ at hcon
    refine Calls.mono hcon ?_
    rintro e w' ⟨rfl, q, rfl⟩
    exact ⟨_, _, rfl, aheadB.trans (putB hg)⟩
end Go.Proofs.Ytecognggnbopaac
