/- Rows of Keys: what the laws' own helpers do to them; rows that came in. Made by gen_rows.py. -/
import Derived.Test.YthnofckkehephaaGreatDoorProg
import Derived.Test.YthnofckkehephaaGreatDoorRowsA
import Derived.Test.YthnofckkehephaaGreatDoorRegA
import Derived.Test.YthnofckkehephaaGreatDoorMarks
import Derived.Deep.Slices
import Derived.Deep.Strs
import Derived.ChangeArms
import Derived.OpenShut
import Derived.Deep.RegionHeld3
import Derived.Deep.QuietTactic
import Derived.BigQuiet
import Derived.WalkSmall
namespace Go.Proofs.YthnofckkehephaaGreatDoor
open Go.RowKit Go.ChangeShapes Go.WideShapes Go.ChangeAt Go.Deep
open Plain
set_option linter.unusedVariables false
set_option linter.unusedSimpArgs false

namespace Plain
structure Ky where
  kind : Int
  num : Int
  text : ByteArray
def kyC (x : Ky) : List Value := [.int .i64 x.kind, .int .i64 x.num, .string x.text]
theorem kyC_len : ∀ x, (kyC x).length = 3 := fun _ => rfl
def ky0 : Ky := ⟨0, 0, ByteArray.empty⟩
def SmallKy (L : Nat) (l : List Ky) : Prop := l.length ≤ L ∧ ∀ m ∈ l, m.text.size ≤ L
end Plain
theorem Tryz.infoKey : (Tryz.prog.info? 33).map (fun i => (i.zero, i.size, i.bytes)) = some (some (.agg #[.int .i64 0, .int .i64 0, .string ByteArray.empty]), 3, 32) := by kernel_rfl
def OwnKy (B : Nat) (w : World) (v : Value) (l : List Ky) : Prop := w.ownsRow B 33 3 v l.length (rowC kyC l)
theorem OwnKy.up {B : Nat} {w w' : World} {v : Value} {l : List Ky} (h : OwnKy B w v l) (hb : Below w.heap.size w w') : OwnKy B w' v l := g_stays h hb
theorem OwnKy.based {B B' : Nat} {w : World} {v : Value} {l : List Ky} (h : OwnKy B w v l) (hB : B' ≤ B) : OwnKy B' w v l := g_based h hB
theorem OwnKy.aside {B : Nat} {w w' : World} {v : Value} {l : List Ky} {row : Option Nat} (h : OwnKy B w v l) (hg : w.grownBy w' row) (hne : ∀ k, row = some k → v.ownBlock ≠ some k) : OwnKy B w' v l := g_aside h hg hne
theorem ky_cells {w : World} {B g n cap : Nat} {l : List Ky} (h : w.ownsRow B 33 3 (.slice (some ⟨g, 0, none⟩) n cap) n (rowC kyC l)) {k : Nat} {f : Ky} (hx : l[k]? = some f) (hk : k < n) :
    w.cell? ⟨g, k * 3, none⟩ = some (.int .i64 f.kind) ∧ w.cell? ⟨g, k * 3 + 1, none⟩ = some (.int .i64 f.num) ∧ w.cell? ⟨g, k * 3 + 2, none⟩ = some (.string f.text) := by
  refine ⟨?_, ?_, ?_⟩
  · rw [h.cellAt _ (by omega)]; exact rowC_get kyC_len hx (j := 0) (by decide)
  · rw [h.cellAt _ (by omega)]; exact rowC_get kyC_len hx (j := 1) (by decide)
  · rw [h.cellAt _ (by omega)]; exact rowC_get kyC_len hx (j := 2) (by decide)
/-- Elements that came in, below block B. -/
def ArgKy (B : Nat) (w : World) (a : Option Addr) (l : List Ky) : Prop :=
  ∀ i f, l[i]? = some f → ∃ x, a = some x ∧ x.block < B ∧ f.text.size ≤ maxLen ∧ w.cell? (x.add (i * 3)) = some (.int .i64 f.kind) ∧ w.cell? ⟨(x.add (i * 3)).block, (x.add (i * 3)).off + 1, none⟩ = some (.int .i64 f.num) ∧ w.cell? ⟨(x.add (i * 3)).block, (x.add (i * 3)).off + 2, none⟩ = some (.string f.text)
theorem ArgKy.below {B : Nat} {w w' : World} {a : Option Addr} {l : List Ky} (h : ArgKy B w a l) (hb : Below B w w') : ArgKy B w' a l := by
  intro i f hf
  obtain ⟨x, h1, h2, z0, c0, c1, c2⟩ := h i f hf
  have hb2 : (x.add (i * 3)).block < B := by rw [g_add]; exact h2
  exact ⟨x, h1, h2, z0, (hb.cell hb2).trans c0, (hb.cell (p := ⟨(x.add (i * 3)).block, _, none⟩) hb2).trans c1, (hb.cell (p := ⟨(x.add (i * 3)).block, _, none⟩) hb2).trans c2⟩
theorem ArgKy.up {w w' : World} {a : Option Addr} {l : List Ky} (h : ArgKy w.heap.size w a l) (hb : Below w.heap.size w w') : ArgKy w'.heap.size w' a l := by
  intro i f hf
  obtain ⟨x, h1, h2, h3⟩ := h.below hb i f hf
  exact ⟨x, h1, Nat.lt_of_lt_of_le h2 hb.size, h3⟩

set_option maxHeartbeats 1000000 in
theorem eqKey_same (kind : Int) (num : Int) (text : ByteArray) (w : World) :
    Calls Tryz.prog 18 #[.agg #[.int .i64 kind, .int .i64 num, .string text], .agg #[.int .i64 kind, .int .i64 num, .string text]] w fun e w' => e = .returned (.bool true) ∧ Below w.heap.size w w' := by
  go_enter Tryz.func18, Tryz.ntmps18
  go_wp2
  go_ret
  refine ⟨rfl, ?_⟩
  go_grown

theorem Tryz.cellsKeyInt : Tryz.prog.cellsOf 3 = 1 := by kernel_rfl
theorem Tryz.cellsKeyStr : Tryz.prog.cellsOf 9 = 1 := by kernel_rfl

end Go.Proofs.YthnofckkehephaaGreatDoor
