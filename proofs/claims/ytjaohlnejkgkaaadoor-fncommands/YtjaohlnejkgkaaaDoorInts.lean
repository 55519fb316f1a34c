/- Rows of ints: what the laws' own helpers do to them. -/
import Derived.Test.YtjaohlnejkgkaaaDoorFiles
import Derived.Deep.Strs
import Derived.Deep.Slices
import Derived.ChangeArms
import Derived.OpenShut
namespace Go.Proofs.YtjaohlnejkgkaaaDoor
open Go.RowKit Go.ChangeShapes Go.WideShapes Go.Deep
open Plain
set_option linter.unusedVariables false

theorem Tryd.infoInt : (Tryd.prog.info? 3).map (fun i => (i.zero, i.size, i.bytes)) = some (some (.int .i64 0), 1, 8) := by kernel_rfl
theorem Tryd.cellsIntI : Tryd.prog.cellsOf 3 = 1 := by kernel_rfl

def iv (l : List Int) : List Value := l.map (Value.int .i64)
theorem iv_length (l : List Int) : (iv l).length = l.length := by simp [iv]
theorem iv_set (l : List Int) (k : Nat) (x : Int) : (iv l).set k (.int .i64 x) = iv (l.set k x) := by simp [iv, List.map_set]
theorem iv_get {l : List Int} {k : Nat} {x : Int} (h : l[k]? = some x) : (iv l)[k]? = some (.int .i64 x) := by simp [iv, h]
def laidI (l : List Int) (k : Nat) : List Int := l.take k ++ List.replicate (l.length - k) 0
theorem laidI_zero (l : List Int) : laidI l 0 = List.replicate l.length 0 := by simp [laidI]
theorem laidI_all (l : List Int) : laidI l l.length = l := by simp [laidI]
theorem laidI_length (l : List Int) (k : Nat) (h : k ≤ l.length) : (laidI l k).length = l.length := by simp [laidI]; omega
theorem laidI_set (l : List Int) (k : Nat) (h : k < l.length) : (laidI l k).set k l[k] = laidI l (k + 1) := by
  unfold laidI
  have e : l.length - k = (l.length - (k + 1)) + 1 := by omega
  rw [List.set_append_right _ _ (by simp; omega), e, List.replicate_succ]
  have : k - (l.take k).length = 0 := by simp; omega
  rw [this, List.set_cons_zero, List.take_succ_eq_append_getElem h, List.append_assoc]
  rfl

/-- Ints that came in, below block B. -/
def ArgI (B : Nat) (w : World) (a : Option Addr) (l : List Int) : Prop :=
  ∀ i x, l[i]? = some x → ∃ p, a = some p ∧ p.block < B ∧ w.cell? (p.add i) = some (.int .i64 x)
theorem ArgI.below {B : Nat} {w w' : World} {a : Option Addr} {l : List Int} (h : ArgI B w a l) (hb : Below B w w') : ArgI B w' a l := by
  intro i x hx
  obtain ⟨p, h1, h2, h3⟩ := h i x hx
  exact ⟨p, h1, h2, by rw [hb.cell (by rw [add_blk]; exact h2)]; exact h3⟩
theorem ArgI.up {w w' : World} {a : Option Addr} {l : List Int} (h : ArgI w.heap.size w a l) (hb : Below w.heap.size w w') : ArgI w'.heap.size w' a l := by
  intro i f hf
  obtain ⟨x, h1, h2, h3⟩ := h.below hb i f hf
  exact ⟨x, h1, Nat.lt_of_lt_of_le h2 hb.size, h3⟩
def OwnI (B : Nat) (w : World) (v : Value) (l : List Int) : Prop := w.ownsRow B 3 1 v l.length (iv l)
theorem OwnI.shape {B : Nat} {w : World} {v : Value} {l : List Int} (h : OwnI B w v l) : ∃ a c, v = .slice a l.length c ∧ ∀ (k : Nat) (x : Int), l[k]? = some x →
    ∃ g, a = some ⟨g, 0, none⟩ ∧ g < w.heap.size ∧ w.cell? ⟨g, k, none⟩ = some (.int .i64 x) := by
  unfold OwnI at h
  rcases h.2 with ⟨rfl, h0⟩ | ⟨g, c, cur, rfl, hb, hh, _⟩
  · refine ⟨none, 0, by rw [h0], fun k f hf => ?_⟩
    rw [List.eq_nil_of_length_eq_zero h0] at hf
    simp at hf
  · refine ⟨_, _, rfl, fun k x hf => ⟨g, rfl, (h.lt _ rfl).2, ?_⟩⟩
    have hk : k < l.length := by
      rcases Nat.lt_or_ge k l.length with h1 | h1
      · exact h1
      · rw [List.getElem?_eq_none h1] at hf; cases hf
    rw [h.cellAt _ (by omega), iv_get hf]

set_option maxRecDepth 100000 in
theorem open_intS {H : Type} {enc : TypeId × Value → H} {W : World} {base : Nat} {v : Value} {d : DataW H} {ps : List MemPlace} (hval : Value.okWide Tryd.prog W .any base 31 v)
    (h : DataW.Trod enc Tryd.prog W 0 (fun _ => true) true 31 v d ps) :
    ∃ (a : Option Addr) (cap : Nat) (l : List Int), v = .slice a l.length cap ∧ l.length ≤ maxLen ∧ ArgI W.heap.size W a l := by
  obtain ⟨a, len, cap, rfl⟩ := okWide_slice Tryd.underlying31 hval
  obtain ⟨fuel, hf⟩ := h
  rcases open_slice1 Tryd.underlying31 Tryd.cellsIntI hf with ⟨hcs, _⟩ | ⟨x, len', cap', m, n, V, D, Pl, hcs, _, hlc, hcm, hm, _, hel⟩
  · simp [Value.cells] at hcs
    obtain ⟨rfl, rfl, rfl⟩ := hcs
    exact ⟨none, 0, [], rfl, Nat.zero_le _, fun i f hf => by simp at hf⟩
  · simp [Value.cells] at hcs
    obtain ⟨rfl, rfl, rfl⟩ := hcs
    have hm' : m = cap := by simpa using hm
    have each : ∀ i, i < len → ∃ z : Int, W.cell? (x.add i) = some (.int .i64 z) := by
      intro i hi
      obtain ⟨h1, h2⟩ := hel i (by omega)
      obtain ⟨z, e, _⟩ := DataW.trod_int Tryd.underlying3 h2
      simp at e
      exact ⟨z, by rw [h1, e]⟩
    obtain ⟨F, hF⟩ := choose_lt (α := Int) each
    refine ⟨some x, cap, (List.range len).map F, by simp, by simp; omega, fun i f hf => ?_⟩
    have hi : i < len := by
      rcases Nat.lt_or_ge i len with h1 | h1
      · exact h1
      · rw [List.getElem?_eq_none (by simpa using h1)] at hf; cases hf
    obtain rfl : F i = f := by simpa [hi] using hf
    refine ⟨x, rfl, ?_, hF i hi⟩
    have := World.block_lt_of_cell? W _ (hF i hi)
    rwa [add_blk] at this
end Go.Proofs.YtjaohlnejkgkaaaDoor
