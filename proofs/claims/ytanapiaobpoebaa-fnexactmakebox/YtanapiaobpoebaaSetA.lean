/- Several texts in one: RangeS, SetS, SetBits, SetRuns, SetPut. Made by fuse_tl.py. -/
import Derived.Test.YtanapiaobpoebaaProg
import Derived.Test.YtanapiaobpoebaaRowsA
import Derived.Test.YtanapiaobpoebaaPlainA
import Derived.Deep.Slices
import Derived.Deep.Strs
import Derived.ChangeArms
import Derived.OpenShut
import Derived.Deep.RegionHeld3
import Derived.Deep.QuietTactic
import Derived.BigQuiet
import Derived.WalkSmall
import Derived.Deep.AppendLies
import Derived.Deep.AppendSrc
/- Rows of ranges: what the laws' own helpers do to them; one that came in, opened. -/
namespace Go.Proofs.Ytanapiaobpoebaa
open Go.RowKit Go.ChangeShapes Go.WideShapes Go.ChangeAt Go.Deep
open Plain
set_option linter.unusedVariables false

def OwnR (B : Nat) (w : World) (v : Value) (l : List Rg) : Prop := w.ownsRow B 150 2 v l.length (rgs l)
theorem OwnR.up {B : Nat} {w w' : World} {v : Value} {l : List Rg} (h : OwnR B w v l) (hb : Below w.heap.size w w') : OwnR B w' v l := g_stays h hb

theorem rg_cells {w : World} {B g n cap : Nat} {l : List Rg} (h : w.ownsRow B 150 2 (.slice (some ⟨g, 0, none⟩) n cap) n (rgs l)) {k : Nat} {f : Rg} (hx : l[k]? = some f) (hk : k < n) :
  w.cell? ⟨g, k * 2, none⟩ = some (.int .i64 f.lo) ∧ w.cell? ⟨g, k * 2 + 1, none⟩ = some (.int .i64 f.hi) := by
 refine ⟨?_, ?_⟩
 ·rw [h.cellAt _ (by omega), rgs_0 hx]
 ·rw [h.cellAt _ (by omega), rgs_1 hx]

/-- Ranges that can be read in a row. -/
def ReadR (w : World) (v : Value) (l : List Rg) : Prop := ∃ a c, v = .slice a l.length c ∧ ∀ (k : Nat) (x : Rg), l[k]? = some x →
 ∃ g, a = some ⟨g, 0, none⟩ ∧ g < w.heap.size ∧ w.cell? ⟨g, k * 2, none⟩ = some (.int .i64 x.lo) ∧ w.cell? ⟨g, k * 2 + 1, none⟩ = some (.int .i64 x.hi)
theorem OwnR.read {B : Nat} {w : World} {v : Value} {l : List Rg} (h : OwnR B w v l) : ReadR w v l := by
 unfold OwnR at h
 rcases h.2 with ⟨rfl, h0⟩ | ⟨g, c, cur, rfl, hb, hh, hlc, _⟩
 ·refine ⟨none, 0, by rw [h0], fun k x hx => ?_⟩
  rw [List.eq_nil_of_length_eq_zero h0] at hx
  simp at hx
 ·refine ⟨_, _, rfl, fun k x hx => ⟨g, rfl, (h.lt _ rfl).2, ?_⟩⟩
  exact rg_cells h hx (List.getElem?_eq_some_iff.1 hx).1
theorem ReadR.up {w w' : World} {v : Value} {l : List Rg} (h : ReadR w v l) (hb : Below w.heap.size w w') : ReadR w' v l := by
 obtain ⟨a, c, hv, hc⟩ := h
 refine ⟨a, c, hv, fun k x hx => ?_⟩
 obtain ⟨g, hg, hl, c0, c1⟩ := hc k x hx
 exact ⟨g, hg, Nat.lt_of_lt_of_le hl hb.size, g_cell hb c0, g_cell hb c1⟩

/-- Ranges that came in, below block B. -/
def ArgR (B : Nat) (w : World) (a : Option Addr) (l : List Rg) : Prop :=
 ∀ i f, l[i]? = some f → ∃ x, a = some x ∧ x.block < B ∧ w.cell? (x.add (i * 2)) = some (.int .i64 f.lo) ∧ w.cell? ⟨(x.add (i * 2)).block, (x.add (i * 2)).off + 1, none⟩ = some (.int .i64 f.hi)
theorem ArgR.below {B : Nat} {w w' : World} {a : Option Addr} {l : List Rg} (h : ArgR B w a l) (hb : Below B w w') : ArgR B w' a l := by
 intro i f hf
 obtain ⟨x, h1, h2, c0, c1⟩ := h i f hf
 have hb' : (x.add (i * 2)).block < B := by rw [g_add]; exact h2
 exact ⟨x, h1, h2, (hb.cell hb').trans c0, (hb.cell (p := ⟨(x.add (i * 2)).block, _, none⟩) hb').trans c1⟩
theorem ArgR.up {w w' : World} {a : Option Addr} {l : List Rg} (h : ArgR w.heap.size w a l) (hb : Below w.heap.size w w') : ArgR w'.heap.size w' a l := by
 intro i f hf
 obtain ⟨x, h1, h2, h3⟩ := h.below hb i f hf
 exact ⟨x, h1, Nat.lt_of_lt_of_le h2 hb.size, h3⟩

end Go.Proofs.Ytanapiaobpoebaa

/- Sets of numbers, as the specification tells them: SetOk, SetHas, SetSize. -/
namespace Go.Proofs.Ytanapiaobpoebaa
open Go.RowKit
open Plain
set_option linter.unusedVariables false

namespace Plain
end Plain

end Go.Proofs.Ytanapiaobpoebaa

/- Sets of numbers as marks: the specification's l05Bits and l05Set. -/
namespace Go.Proofs.Ytanapiaobpoebaa
open Go.RowKit
open Plain
set_option linter.unusedVariables false

namespace Plain
end Plain

end Go.Proofs.Ytanapiaobpoebaa

/- The set of what is marked: the specification's l05Set. -/
namespace Go.Proofs.Ytanapiaobpoebaa
open Go.RowKit
open Plain
set_option linter.unusedVariables false

namespace Plain
end Plain

end Go.Proofs.Ytanapiaobpoebaa

/- Numbers put into a set, or taken out of it: the specification's l05Put, SetAdd, SetDrop. -/
namespace Go.Proofs.Ytanapiaobpoebaa
open Go.RowKit
open Plain
set_option linter.unusedVariables false

namespace Plain
end Plain

end Go.Proofs.Ytanapiaobpoebaa
