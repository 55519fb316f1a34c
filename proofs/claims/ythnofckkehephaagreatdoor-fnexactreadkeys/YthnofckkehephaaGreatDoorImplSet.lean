/- The program's sets: what is right, what is in, how many. -/
import Derived.Test.YthnofckkehephaaGreatDoorSetA
import Derived.Test.YthnofckkehephaaGreatDoorPlainA
import Derived.Test.YthnofckkehephaaGreatDoorRegA
namespace Go.Proofs.YthnofckkehephaaGreatDoor
open Go.RowKit
open Plain
set_option linter.unusedVariables false

theorem b_drewN {B : Nat} {w W : World} (h : Below B w W) (n : Nat) : Below B w (W.drewN n) := ⟨h.os, h.tape, h.output, h.size, h.block⟩
/-- Ranges that can be read, wherever their row begins. -/
def ReadO (w : World) (v : Value) (l : List Rg) : Prop := ∃ a c, v = .slice a l.length c ∧ l.length ≤ c ∧ ∀ (k : Nat) (x : Rg), l[k]? = some x →
  ∃ g o, a = some ⟨g, o, none⟩ ∧ g < w.heap.size ∧ w.cell? ⟨g, o + k * 2, none⟩ = some (.int .i64 x.lo) ∧ w.cell? ⟨g, o + k * 2 + 1, none⟩ = some (.int .i64 x.hi)
theorem OwnR.wide {B : Nat} {w : World} {v : Value} {l : List Rg} (h : OwnR B w v l) : ReadO w v l := by
  unfold OwnR at h
  rcases h.2 with ⟨rfl, h0⟩ | ⟨g, c, cur, rfl, hb, hh, hlc, _⟩
  · refine ⟨none, 0, by rw [h0], by omega, fun k x hx => ?_⟩
    rw [List.eq_nil_of_length_eq_zero h0] at hx
    simp at hx
  · refine ⟨_, _, rfl, hlc, fun k x hx => ⟨g, 0, rfl, (h.lt _ rfl).2, ?_⟩⟩
    rw [Nat.zero_add]
    exact rg_cells h hx (List.getElem?_eq_some_iff.1 hx).1
theorem ReadO.up {w w' : World} {v : Value} {l : List Rg} (h : ReadO w v l) (hb : Below w.heap.size w w') : ReadO w' v l := by
  obtain ⟨a, c, hv, hcap, hc⟩ := h
  refine ⟨a, c, hv, hcap, fun k x hx => ?_⟩
  obtain ⟨g, o, hg, hl, c0, c1⟩ := hc k x hx
  exact ⟨g, o, hg, Nat.lt_of_lt_of_le hl hb.size, g_cell hb c0, g_cell hb c1⟩
theorem ReadO.nil (w : World) (a : Option Addr) (c : Nat) : ReadO w (.slice a 0 c) [] := ⟨a, c, rfl, Nat.zero_le _, fun k x hx => by simp at hx⟩
/-- A piece of a row. -/
theorem ReadO.piece {w : World} {g o c : Nat} {l : List Rg} (h : ReadO w (.slice (some ⟨g, o, none⟩) l.length c) l) (i n c' : Nat) (hi : i + n ≤ l.length) (hc : n ≤ c') (o' : Nat) (ho : 0 < n → o' = o + i * 2) : ReadO w (.slice (some ⟨g, o', none⟩) n c') ((l.drop i).take n) := by
  obtain ⟨a, c2, hv, _, hcell⟩ := h
  cases hv
  have hl : ((l.drop i).take n).length = n := by simp; omega
  refine ⟨_, _, by rw [hl], by omega, fun k x hx => ?_⟩
  have hk : k < n := by have := (List.getElem?_eq_some_iff.1 hx).1; omega
  rw [List.getElem?_take_of_lt hk, List.getElem?_drop] at hx
  obtain ⟨g', q, hg, hlt, c0, c1⟩ := hcell _ x hx
  cases hg
  rw [ho (by omega)]
  exact ⟨g, _, rfl, hlt, by rw [← c0]; congr 2; omega, by rw [← c1]; congr 2; omega⟩

def rightB (r : Rg) : Bool := decide (1 ≤ r.lo) && decide (r.lo ≤ r.hi) && decide (r.hi ≤ 9999)
theorem rightB_yes {r : Rg} : rightB r = true ↔ 1 ≤ r.lo ∧ r.lo ≤ r.hi ∧ r.hi ≤ 9999 := by simp [rightB, and_assoc]
theorem impl_rangeOk_any (r : Rg) (w : World) :
    Calls Tryz.prog 56 #[.agg #[.int .i64 r.lo, .int .i64 r.hi]] w fun e w' => e = .returned (.bool (rightB r)) ∧ Below w.heap.size w w' := by
  obtain ⟨p, q⟩ := r
  unfold rightB
  simp only
  by_cases h1 : 1 ≤ p
  · have d1 : decide (1 ≤ p) = true := by simpa using h1
    by_cases h2 : p ≤ q
    · have d2 : decide (p ≤ q) = true := by simpa using h2
      by_cases h3 : q ≤ 9999
      · have d3 : decide (q ≤ 9999) = true := by simpa using h3
        rw [d1, d2, d3]
        go_enter Tryz.func56, Tryz.ntmps56
        go_wp2
        go_ret
        exact ⟨rfl, by go_grown⟩
      · have d3 : decide (q ≤ 9999) = false := by simpa using h3
        rw [d1, d2, d3]
        go_enter Tryz.func56, Tryz.ntmps56
        go_wp2
        go_ret
        exact ⟨rfl, by go_grown⟩
    · have d2 : decide (p ≤ q) = false := by simpa using h2
      rw [d1, d2]
      go_enter Tryz.func56, Tryz.ntmps56
      go_wp2
      go_ret
      exact ⟨rfl, by go_grown⟩
  · have d1 : decide (1 ≤ p) = false := by simpa using h1
    rw [d1]
    go_enter Tryz.func56, Tryz.ntmps56
    go_wp2
    go_ret
    exact ⟨rfl, by go_grown⟩
end Go.Proofs.YthnofckkehephaaGreatDoor
