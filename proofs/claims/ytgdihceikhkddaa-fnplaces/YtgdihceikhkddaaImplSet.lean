/- The program's sets: what is right, what is in, how many. -/
import Derived.Test.YtgdihceikhkddaaSetA
import Derived.Test.YtgdihceikhkddaaPlainA
import Derived.Test.YtgdihceikhkddaaRegA
namespace Go.Proofs.Ytgdihceikhkddaa
open Go.RowKit
open Plain
set_option linter.unusedVariables false

/-- Ranges that can be read, wherever their row begins. -/
def ReadO (w : World) (v : Value) (l : List Rg) : Prop := ∃ a c, v = .slice a l.length c ∧ l.length ≤ c ∧ ∀ (k : Nat) (x : Rg), l[k]? = some x →
 ∃ g o, a = some ⟨g, o, none⟩ ∧ g < w.heap.size ∧ w.cell? ⟨g, o + k * 2, none⟩ = some (.int .i64 x.lo) ∧ w.cell? ⟨g, o + k * 2 + 1, none⟩ = some (.int .i64 x.hi)
theorem OwnR.wide {B : Nat} {w : World} {v : Value} {l : List Rg} (h : OwnR B w v l) : ReadO w v l := by
 unfold OwnR at h
 rcases h.2 with ⟨rfl, h0⟩ | ⟨g, c, cur, rfl, hb, hh, hlc, _⟩
 ·refine ⟨none, 0, by rw [h0], by omega, fun k x hx => ?_⟩
  rw [List.eq_nil_of_length_eq_zero h0] at hx
  simp at hx
 ·refine ⟨_, _, rfl, hlc, fun k x hx => ⟨g, 0, rfl, (h.lt _ rfl).2, ?_⟩⟩
  rw [Nat.zero_add]
  exact rg_cells h hx (List.getElem?_eq_some_iff.1 hx).1
theorem ReadO.up {w w' : World} {v : Value} {l : List Rg} (h : ReadO w v l) (hb : Below w.heap.size w w') : ReadO w' v l := by
 obtain ⟨a, c, hv, hcap, hc⟩ := h
 refine ⟨a, c, hv, hcap, fun k x hx => ?_⟩
 obtain ⟨g, o, hg, hl, c0, c1⟩ := hc k x hx
 exact ⟨g, o, hg, Nat.lt_of_lt_of_le hl hb.size, g_cell hb c0, g_cell hb c1⟩
theorem ReadO.nil (w : World) (a : Option Addr) (c : Nat) : ReadO w (.slice a 0 c) [] := ⟨a, c, rfl, Nat.zero_le _, fun k x hx => by simp at hx⟩
/-- A piece of a row. -/
theorem ReadO.piece {w : World} {g o c : Nat} {l : List Rg} (h : ReadO w (.slice (some ⟨g, o, none⟩) l.length c) l) (i n c' : Nat) (hi : i + n ≤ l.length) (hc : n ≤ c') (o' : Nat) (ho : 0 < n → o' = o + i * 2) : ReadO w (.slice (some ⟨g, o', none⟩) n c') ((l.drop i).take n) := by
 obtain ⟨a, c2, hv, _, hcell⟩ := h
 cases hv
 have hl : ((l.drop i).take n).length = n := by simp; omega
 refine ⟨_, _, by rw [hl], by omega, fun k x hx => ?_⟩
 have hk : k < n := by have := (List.getElem?_eq_some_iff.1 hx).1; omega
 rw [List.getElem?_take_of_lt hk, List.getElem?_drop] at hx
 obtain ⟨g', q, hg, hlt, c0, c1⟩ := hcell _ x hx
 cases hg
 rw [ho (by omega)]
 exact ⟨g, _, rfl, hlt, by rw [← c0]; congr 2; omega, by rw [← c1]; congr 2; omega⟩

end Go.Proofs.Ytgdihceikhkddaa
