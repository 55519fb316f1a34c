/- Rows of ranges: what the laws' own helpers do to them; one that came in, opened. -/
import Derived.Test.YtkjlponggednoacProg
import Derived.Test.YtkjlponggednoacOwn
import Derived.Test.YtkjlponggednoacRangePlain
import Derived.Deep.Slices
import Derived.Deep.Strs
import Derived.ChangeArms
import Derived.OpenShut
import Derived.Deep.RegionHeld3
import Derived.Deep.QuietTactic
import Derived.BigQuiet
import Derived.WalkSmall
namespace Go.Proofs.Ytkjlponggednoac
open Go.RowKit Go.ChangeShapes Go.WideShapes Go.ChangeAt Go.Deep
open Plain
set_option linter.unusedVariables false

theorem Try.infoRange : (Try.prog.info? 63).map (fun i => (i.zero, i.size, i.bytes)) = some (some (.agg #[.int .i64 0, .int .i64 0]), 2, 16) := by kernel_rfl
def OwnR (B : Nat) (w : World) (v : Value) (l : List Rg) : Prop := w.ownsRow B 63 2 v l.length (rgs l)
theorem OwnR.up {B : Nat} {w w' : World} {v : Value} {l : List Rg} (h : OwnR B w v l) (hb : Below w.heap.size w w') : OwnR B w' v l := g_stays h hb

theorem rg_cells {w : World} {B g n cap : Nat} {l : List Rg} (h : w.ownsRow B 63 2 (.slice (some ⟨g, 0, none⟩) n cap) n (rgs l)) {k : Nat} {f : Rg} (hx : l[k]? = some f) (hk : k < n) :
    w.cell? ⟨g, k * 2, none⟩ = some (.int .i64 f.lo) ∧ w.cell? ⟨g, k * 2 + 1, none⟩ = some (.int .i64 f.hi) := by
  refine ⟨?_, ?_⟩
  · rw [h.cellAt _ (by omega), rgs_0 hx]
  · rw [h.cellAt _ (by omega), rgs_1 hx]

/-- Ranges that can be read in a row. -/
def ReadR (w : World) (v : Value) (l : List Rg) : Prop := ∃ a c, v = .slice a l.length c ∧ ∀ (k : Nat) (x : Rg), l[k]? = some x →
  ∃ g, a = some ⟨g, 0, none⟩ ∧ g < w.heap.size ∧ w.cell? ⟨g, k * 2, none⟩ = some (.int .i64 x.lo) ∧ w.cell? ⟨g, k * 2 + 1, none⟩ = some (.int .i64 x.hi)
theorem OwnR.read {B : Nat} {w : World} {v : Value} {l : List Rg} (h : OwnR B w v l) : ReadR w v l := by
  unfold OwnR at h
  rcases h.2 with ⟨rfl, h0⟩ | ⟨g, c, cur, rfl, hb, hh, hlc, _⟩
  · refine ⟨none, 0, by rw [h0], fun k x hx => ?_⟩
    rw [List.eq_nil_of_length_eq_zero h0] at hx
    simp at hx
  · refine ⟨_, _, rfl, fun k x hx => ⟨g, rfl, (h.lt _ rfl).2, ?_⟩⟩
    exact rg_cells h hx (List.getElem?_eq_some_iff.1 hx).1
theorem ReadR.up {w w' : World} {v : Value} {l : List Rg} (h : ReadR w v l) (hb : Below w.heap.size w w') : ReadR w' v l := by
  obtain ⟨a, c, hv, hc⟩ := h
  refine ⟨a, c, hv, fun k x hx => ?_⟩
  obtain ⟨g, hg, hl, c0, c1⟩ := hc k x hx
  exact ⟨g, hg, Nat.lt_of_lt_of_le hl hb.size, g_cell hb c0, g_cell hb c1⟩

/-- Ranges that came in, below block B. -/
def ArgR (B : Nat) (w : World) (a : Option Addr) (l : List Rg) : Prop :=
  ∀ i f, l[i]? = some f → ∃ x, a = some x ∧ x.block < B ∧ w.cell? (x.add (i * 2)) = some (.int .i64 f.lo) ∧ w.cell? ⟨(x.add (i * 2)).block, (x.add (i * 2)).off + 1, none⟩ = some (.int .i64 f.hi)
theorem ArgR.below {B : Nat} {w w' : World} {a : Option Addr} {l : List Rg} (h : ArgR B w a l) (hb : Below B w w') : ArgR B w' a l := by
  intro i f hf
  obtain ⟨x, h1, h2, c0, c1⟩ := h i f hf
  have hb' : (x.add (i * 2)).block < B := by rw [g_add]; exact h2
  exact ⟨x, h1, h2, (hb.cell hb').trans c0, (hb.cell (p := ⟨(x.add (i * 2)).block, _, none⟩) hb').trans c1⟩
theorem ArgR.up {w w' : World} {a : Option Addr} {l : List Rg} (h : ArgR w.heap.size w a l) (hb : Below w.heap.size w w') : ArgR w'.heap.size w' a l := by
  intro i f hf
  obtain ⟨x, h1, h2, h3⟩ := h.below hb i f hf
  exact ⟨x, h1, Nat.lt_of_lt_of_le h2 hb.size, h3⟩

theorem eqRange_same (x : Rg) (w : World) :
    Calls Try.prog 36 #[.agg #[.int .i64 x.lo, .int .i64 x.hi], .agg #[.int .i64 x.lo, .int .i64 x.hi]] w fun e w' => e = .returned (.bool true) ∧ Below w.heap.size w w' := by
  obtain ⟨p, q⟩ := x
  go_enter Try.func36, Try.ntmps36
  go_wp2
  go_ret
  refine ⟨rfl, ?_⟩
  go_grown

theorem made_ranges (n : Nat) : (madeCells (Value.agg #[.int .i64 0, .int .i64 0]).cells (n * 2)).toList = rgs (List.replicate n rg0) := by
  apply List.ext_getElem?
  intro i
  obtain ⟨q, j, rfl, hj⟩ : ∃ q j, i = q * 2 + j ∧ j < 2 := ⟨i / 2, i % 2, by omega, Nat.mod_lt _ (by omega)⟩
  by_cases hq : q < n
  · rw [rgs_get _ q rg0 (by simp [hq]) j hj]
    have e1 : (q * 2 + j) % 2 = j := by omega
    have hm : q * 2 + j < n * 2 := by omega
    rw [Array.getElem?_toList, madeCells, Array.getElem?_map, Array.getElem?_eq_getElem (by simp; omega), Array.getElem_range, Option.map_some]
    show some (#[Value.int .i64 0, .int .i64 0][(q * 2 + j) % 2]!) = _
    rw [e1]
    match j, hj with
    | 0, _ => simp [rgl, rg0]
    | 1, _ => simp [rgl, rg0]
  · rw [List.getElem?_eq_none (by simp [madeCells]; omega), List.getElem?_eq_none (by simp [rgs_length]; omega)]

theorem Try.cellsIntR : Try.prog.cellsOf 3 = 1 := by kernel_rfl

end Go.Proofs.Ytkjlponggednoac
