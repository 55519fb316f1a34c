/- Rows of Seens: what the laws' own helpers do to them; rows that came in. Made by gen_rows.py. -/
import Derived.Test.YtgdihceikhkddaaProg
import Derived.Test.YtgdihceikhkddaaRowsA
import Derived.Test.YtgdihceikhkddaaRegA
import Derived.Deep.Slices
import Derived.Deep.Strs
import Derived.ChangeArms
import Derived.OpenShut
import Derived.Deep.RegionHeld3
import Derived.Deep.QuietTactic
import Derived.BigQuiet
import Derived.WalkSmall
namespace Go.Proofs.Ytgdihceikhkddaa
open Go.RowKit Go.ChangeShapes Go.WideShapes Go.ChangeAt Go.Deep
open Plain
set_option linter.unusedVariables false
set_option linter.unusedSimpArgs false

namespace Plain
structure Sn where
 uid : Int
 flags : Int
 mod : Int
def snC (x : Sn) : List Value := [.int .i64 x.uid, .int .i64 x.flags, .int .i64 x.mod]
theorem snC_len : ∀ x, (snC x).length = 3 := fun _ => rfl
def sn0 : Sn := ⟨0, 0, 0⟩
end Plain
theorem Try.infoSeen : (Try.prog.info? 34).map (fun i => (i.zero, i.size, i.bytes)) = some (some (.agg #[.int .i64 0, .int .i64 0, .int .i64 0]), 3, 24) := by kernel_rfl
def OwnSn (B : Nat) (w : World) (v : Value) (l : List Sn) : Prop := w.ownsRow B 34 3 v l.length (rowC snC l)
theorem OwnSn.up {B : Nat} {w w' : World} {v : Value} {l : List Sn} (h : OwnSn B w v l) (hb : Below w.heap.size w w') : OwnSn B w' v l := g_stays h hb
theorem OwnSn.based {B B' : Nat} {w : World} {v : Value} {l : List Sn} (h : OwnSn B w v l) (hB : B' ≤ B) : OwnSn B' w v l := g_based h hB
theorem sn_cells {w : World} {B g n cap : Nat} {l : List Sn} (h : w.ownsRow B 34 3 (.slice (some ⟨g, 0, none⟩) n cap) n (rowC snC l)) {k : Nat} {f : Sn} (hx : l[k]? = some f) (hk : k < n) :
  w.cell? ⟨g, k * 3, none⟩ = some (.int .i64 f.uid) ∧ w.cell? ⟨g, k * 3 + 1, none⟩ = some (.int .i64 f.flags) ∧ w.cell? ⟨g, k * 3 + 2, none⟩ = some (.int .i64 f.mod) := by
 refine ⟨?_, ?_, ?_⟩
 ·rw [h.cellAt _ (by omega)]; exact rowC_get snC_len hx (j := 0) (by decide)
 ·rw [h.cellAt _ (by omega)]; exact rowC_get snC_len hx (j := 1) (by decide)
 ·rw [h.cellAt _ (by omega)]; exact rowC_get snC_len hx (j := 2) (by decide)
/-- Elements that came in, below block B. -/
def ArgSn (B : Nat) (w : World) (a : Option Addr) (l : List Sn) : Prop :=
 ∀ i f, l[i]? = some f → ∃ x, a = some x ∧ x.block < B ∧ w.cell? (x.add (i * 3)) = some (.int .i64 f.uid) ∧ w.cell? ⟨(x.add (i * 3)).block, (x.add (i * 3)).off + 1, none⟩ = some (.int .i64 f.flags) ∧ w.cell? ⟨(x.add (i * 3)).block, (x.add (i * 3)).off + 2, none⟩ = some (.int .i64 f.mod)
theorem ArgSn.below {B : Nat} {w w' : World} {a : Option Addr} {l : List Sn} (h : ArgSn B w a l) (hb : Below B w w') : ArgSn B w' a l := by
 intro i f hf
 obtain ⟨x, h1, h2, c0, c1, c2⟩ := h i f hf
 have hb2 : (x.add (i * 3)).block < B := by rw [g_add]; exact h2
 exact ⟨x, h1, h2, (hb.cell hb2).trans c0, (hb.cell (p := ⟨(x.add (i * 3)).block, _, none⟩) hb2).trans c1, (hb.cell (p := ⟨(x.add (i * 3)).block, _, none⟩) hb2).trans c2⟩
theorem ArgSn.up {w w' : World} {a : Option Addr} {l : List Sn} (h : ArgSn w.heap.size w a l) (hb : Below w.heap.size w w') : ArgSn w'.heap.size w' a l := by
 intro i f hf
 obtain ⟨x, h1, h2, h3⟩ := h.below hb i f hf
 exact ⟨x, h1, Nat.lt_of_lt_of_le h2 hb.size, h3⟩

end Go.Proofs.Ytgdihceikhkddaa
