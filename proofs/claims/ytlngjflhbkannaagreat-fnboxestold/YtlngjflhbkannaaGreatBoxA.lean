/- Several texts in one: MailRow, MailMarks, TombRow, TombMarks, BoxVal, BoxMarks, BoxLed. Made by fuse_tl.py. -/
import Derived.Test.YtlngjflhbkannaaGreatTv
import Derived.Test.YtlngjflhbkannaaGreatProg
import Derived.Test.YtlngjflhbkannaaGreatRowsA
import Derived.Test.YtlngjflhbkannaaGreatRegA
import Derived.Test.YtlngjflhbkannaaGreatBmA
import Derived.Deep.Slices
import Derived.Deep.Strs
import Derived.ChangeArms
import Derived.OpenShut
import Derived.Deep.RegionHeld3
import Derived.Deep.QuietTactic
import Derived.BigQuiet
import Derived.WalkSmall
/- Rows of Mails: what the laws' own helpers do to them; rows that came in. Made by gen_rows.py. -/
namespace Go.Proofs.YtlngjflhbkannaaGreat
open Go.RowKit Go.ChangeShapes Go.WideShapes Go.ChangeAt Go.Deep
open Plain
set_option linter.unusedVariables false
set_option linter.unusedSimpArgs false

namespace Plain
structure Ml where
 uid : Int
 flags : Int
 mod : Int
 text : ByteArray
def mlC (x : Ml) : List Value := [.int .i64 x.uid, .int .i64 x.flags, .int .i64 x.mod, .string x.text]
theorem mlC_len : ∀ x, (mlC x).length = 4 := fun _ => rfl
def SmallMl (L : Nat) (l : List Ml) : Prop := l.length ≤ L ∧ ∀ m ∈ l, m.text.size ≤ L
end Plain
theorem Tryz.infoMail : (Tryz.prog.info? 100).map (fun i => (i.zero, i.size, i.bytes)) = some (some (.agg #[.int .i64 0, .int .i64 0, .int .i64 0, .string ByteArray.empty]), 4, 40) := by kernel_rfl
def OwnMl (B : Nat) (w : World) (v : Value) (l : List Ml) : Prop := w.ownsRow B 100 4 v l.length (rowC mlC l)
theorem OwnMl.up {B : Nat} {w w' : World} {v : Value} {l : List Ml} (h : OwnMl B w v l) (hb : Below w.heap.size w w') : OwnMl B w' v l := g_stays h hb
theorem OwnMl.based {B B' : Nat} {w : World} {v : Value} {l : List Ml} (h : OwnMl B w v l) (hB : B' ≤ B) : OwnMl B' w v l := g_based h hB
theorem ml_cells {w : World} {B g n cap : Nat} {l : List Ml} (h : w.ownsRow B 100 4 (.slice (some ⟨g, 0, none⟩) n cap) n (rowC mlC l)) {k : Nat} {f : Ml} (hx : l[k]? = some f) (hk : k < n) :
  w.cell? ⟨g, k * 4, none⟩ = some (.int .i64 f.uid) ∧ w.cell? ⟨g, k * 4 + 1, none⟩ = some (.int .i64 f.flags) ∧ w.cell? ⟨g, k * 4 + 2, none⟩ = some (.int .i64 f.mod) ∧ w.cell? ⟨g, k * 4 + 3, none⟩ = some (.string f.text) := by
 refine ⟨?_, ?_, ?_, ?_⟩
 ·rw [h.cellAt _ (by omega)]; exact rowC_get mlC_len hx (j := 0) (by decide)
 ·rw [h.cellAt _ (by omega)]; exact rowC_get mlC_len hx (j := 1) (by decide)
 ·rw [h.cellAt _ (by omega)]; exact rowC_get mlC_len hx (j := 2) (by decide)
 ·rw [h.cellAt _ (by omega)]; exact rowC_get mlC_len hx (j := 3) (by decide)
/-- Elements that came in, below block B. -/
def ArgMl (B : Nat) (w : World) (a : Option Addr) (l : List Ml) : Prop :=
 ∀ i f, l[i]? = some f → ∃ x, a = some x ∧ x.block < B ∧ f.text.size ≤ maxLen ∧ w.cell? (x.add (i * 4)) = some (.int .i64 f.uid) ∧ w.cell? ⟨(x.add (i * 4)).block, (x.add (i * 4)).off + 1, none⟩ = some (.int .i64 f.flags) ∧ w.cell? ⟨(x.add (i * 4)).block, (x.add (i * 4)).off + 2, none⟩ = some (.int .i64 f.mod) ∧ w.cell? ⟨(x.add (i * 4)).block, (x.add (i * 4)).off + 3, none⟩ = some (.string f.text)
theorem ArgMl.below {B : Nat} {w w' : World} {a : Option Addr} {l : List Ml} (h : ArgMl B w a l) (hb : Below B w w') : ArgMl B w' a l := by
 intro i f hf
 obtain ⟨x, h1, h2, z0, c0, c1, c2, c3⟩ := h i f hf
 have hb2 : (x.add (i * 4)).block < B := by rw [g_add]; exact h2
 exact ⟨x, h1, h2, z0, (hb.cell hb2).trans c0, (hb.cell (p := ⟨(x.add (i * 4)).block, _, none⟩) hb2).trans c1, (hb.cell (p := ⟨(x.add (i * 4)).block, _, none⟩) hb2).trans c2, (hb.cell (p := ⟨(x.add (i * 4)).block, _, none⟩) hb2).trans c3⟩
theorem ArgMl.up {w w' : World} {a : Option Addr} {l : List Ml} (h : ArgMl w.heap.size w a l) (hb : Below w.heap.size w w') : ArgMl w'.heap.size w' a l := by
 intro i f hf
 obtain ⟨x, h1, h2, h3⟩ := h.below hb i f hf
 exact ⟨x, h1, Nat.lt_of_lt_of_le h2 hb.size, h3⟩

end Go.Proofs.YtlngjflhbkannaaGreat

/- Rows of Mails that are the same; marks in them. Made by gen_rows.py. -/
namespace Go.Proofs.YtlngjflhbkannaaGreat
open Go.RowKit
open Plain
set_option linter.unusedVariables false

namespace Plain
end Plain
end Go.Proofs.YtlngjflhbkannaaGreat

/- Rows of Tombs: what the laws' own helpers do to them; rows that came in. Made by gen_rows.py. -/
namespace Go.Proofs.YtlngjflhbkannaaGreat
open Go.RowKit Go.ChangeShapes Go.WideShapes Go.ChangeAt Go.Deep
open Plain
set_option linter.unusedVariables false
set_option linter.unusedSimpArgs false

namespace Plain
structure Tb where
 uid : Int
 mod : Int
def tbC (x : Tb) : List Value := [.int .i64 x.uid, .int .i64 x.mod]
theorem tbC_len : ∀ x, (tbC x).length = 2 := fun _ => rfl
end Plain
theorem Tryz.infoTomb : (Tryz.prog.info? 117).map (fun i => (i.zero, i.size, i.bytes)) = some (some (.agg #[.int .i64 0, .int .i64 0]), 2, 16) := by kernel_rfl
def OwnTb (B : Nat) (w : World) (v : Value) (l : List Tb) : Prop := w.ownsRow B 117 2 v l.length (rowC tbC l)
theorem OwnTb.up {B : Nat} {w w' : World} {v : Value} {l : List Tb} (h : OwnTb B w v l) (hb : Below w.heap.size w w') : OwnTb B w' v l := g_stays h hb
theorem OwnTb.based {B B' : Nat} {w : World} {v : Value} {l : List Tb} (h : OwnTb B w v l) (hB : B' ≤ B) : OwnTb B' w v l := g_based h hB
theorem tb_cells {w : World} {B g n cap : Nat} {l : List Tb} (h : w.ownsRow B 117 2 (.slice (some ⟨g, 0, none⟩) n cap) n (rowC tbC l)) {k : Nat} {f : Tb} (hx : l[k]? = some f) (hk : k < n) :
  w.cell? ⟨g, k * 2, none⟩ = some (.int .i64 f.uid) ∧ w.cell? ⟨g, k * 2 + 1, none⟩ = some (.int .i64 f.mod) := by
 refine ⟨?_, ?_⟩
 ·rw [h.cellAt _ (by omega)]; exact rowC_get tbC_len hx (j := 0) (by decide)
 ·rw [h.cellAt _ (by omega)]; exact rowC_get tbC_len hx (j := 1) (by decide)
/-- Elements that came in, below block B. -/
def ArgTb (B : Nat) (w : World) (a : Option Addr) (l : List Tb) : Prop :=
 ∀ i f, l[i]? = some f → ∃ x, a = some x ∧ x.block < B ∧ w.cell? (x.add (i * 2)) = some (.int .i64 f.uid) ∧ w.cell? ⟨(x.add (i * 2)).block, (x.add (i * 2)).off + 1, none⟩ = some (.int .i64 f.mod)
theorem ArgTb.below {B : Nat} {w w' : World} {a : Option Addr} {l : List Tb} (h : ArgTb B w a l) (hb : Below B w w') : ArgTb B w' a l := by
 intro i f hf
 obtain ⟨x, h1, h2, c0, c1⟩ := h i f hf
 have hb2 : (x.add (i * 2)).block < B := by rw [g_add]; exact h2
 exact ⟨x, h1, h2, (hb.cell hb2).trans c0, (hb.cell (p := ⟨(x.add (i * 2)).block, _, none⟩) hb2).trans c1⟩
theorem ArgTb.up {w w' : World} {a : Option Addr} {l : List Tb} (h : ArgTb w.heap.size w a l) (hb : Below w.heap.size w w') : ArgTb w'.heap.size w' a l := by
 intro i f hf
 obtain ⟨x, h1, h2, h3⟩ := h.below hb i f hf
 exact ⟨x, h1, Nat.lt_of_lt_of_le h2 hb.size, h3⟩

end Go.Proofs.YtlngjflhbkannaaGreat

/- Rows of Tombs that are the same; marks in them. Made by gen_rows.py. -/
namespace Go.Proofs.YtlngjflhbkannaaGreat
open Go.RowKit
open Plain
set_option linter.unusedVariables false

namespace Plain
end Plain
end Go.Proofs.YtlngjflhbkannaaGreat

/- Boxes as values: what the laws' own helpers do to them. Made by gen_boxval.py. -/
namespace Go.Proofs.YtlngjflhbkannaaGreat
open Go.RowKit Go.ChangeShapes Go.WideShapes Go.ChangeAt Go.Deep
open Plain
set_option linter.unusedVariables false
set_option linter.unusedSimpArgs false

namespace Plain
structure Bx where
 name : ByteArray
 valid : Int
 next : Int
 mod : Int
 mails : List Ml
 tombs : List Tb
 hor : Int
/-- None of it is too long. -/
def SmallBx (L : Nat) (b : Bx) : Prop := b.name.size ≤ L ∧ SmallMl L b.mails ∧ b.tombs.length ≤ L
end Plain
abbrev boxV (b : Bx) (m t : Value) : Value := .agg #[.string b.name, .int .i64 b.valid, .int .i64 b.next, .int .i64 b.mod, m, t, .int .i64 b.hor]
/-- A box whose rows are one's own. -/
def OwnBx (B : Nat) (w : World) (m t : Value) (b : Bx) : Prop := OwnMl B w m b.mails ∧ OwnTb B w t b.tombs
theorem OwnBx.up {B : Nat} {w w' : World} {m t : Value} {b : Bx} (h : OwnBx B w m t b) (hb : Below w.heap.size w w') : OwnBx B w' m t b := ⟨h.1.up hb, h.2.up hb⟩
theorem OwnBx.based {B B' : Nat} {w : World} {m t : Value} {b : Bx} (h : OwnBx B w m t b) (hB : B' ≤ B) : OwnBx B' w m t b := ⟨h.1.based hB, h.2.based hB⟩
theorem OwnBx.but {B : Nat} {w w' : World} {S : Nat → Prop} {m t : Value} {b : Bx} (h : OwnBx B w m t b) (hg : GrownBut w w' S) (hS : ∀ g, (m.ownBlock = some g ∨ t.ownBlock = some g) → ¬ S g) : OwnBx B w' m t b :=
 ⟨hg.row h.1 (fun g hg => hS g (.inl hg)), hg.row h.2 (fun g hg => hS g (.inr hg))⟩
theorem OwnBx.base {B : Nat} {w : World} {m t : Value} {b : Bx} (h : OwnBx B w m t b) : ∀ g, (m.ownBlock = some g ∨ t.ownBlock = some g) → B ≤ g ∧ g < w.heap.size := by
 intro g hg
 rcases hg with hg | hg
 ·exact h.1.lt g hg
 ·exact h.2.lt g hg
/-- A box that came in. -/
structure ArgBx (B : Nat) (w : World) (a1 a2 : Option Addr) (b : Bx) : Prop where
 name : b.name.size ≤ maxLen
 m1 : b.mails.length ≤ maxLen
 m2 : b.tombs.length ≤ maxLen
 mails : ArgMl B w a1 b.mails
 tombs : ArgTb B w a2 b.tombs
theorem ArgBx.below {B : Nat} {w w' : World} {a1 a2 : Option Addr} {b : Bx} (h : ArgBx B w a1 a2 b) (hb : Below B w w') : ArgBx B w' a1 a2 b := ⟨h.name, h.m1, h.m2, h.mails.below hb, h.tombs.below hb⟩
theorem ArgBx.up {w w' : World} {a1 a2 : Option Addr} {b : Bx} (h : ArgBx w.heap.size w a1 a2 b) (hb : Below w.heap.size w w') : ArgBx w'.heap.size w' a1 a2 b := ⟨h.name, h.m1, h.m2, h.mails.up hb, h.tombs.up hb⟩

end Go.Proofs.YtlngjflhbkannaaGreat

/- Boxes: sizes, sameness, marks; a box that came in, opened. Made by gen_boxmarks.py. -/
namespace Go.Proofs.YtlngjflhbkannaaGreat
open Go.RowKit Go.ChangeShapes Go.WideShapes Go.ChangeAt Go.Deep
open Plain
set_option linter.unusedVariables false
set_option linter.unusedSimpArgs false

end Go.Proofs.YtlngjflhbkannaaGreat

/- The ledger of the laws on boxes: what every step carries on. -/
namespace Go.Proofs.YtlngjflhbkannaaGreat
open Go.RowKit
open Plain
set_option linter.unusedVariables false

theorem HasObj.drew {W : World} {b : Nat} {t : TypeId} {vs : List Value} (h : HasObj W b t vs) : HasObj W.drew b t vs := h
theorem OwnBx.drew {B : Nat} {W : World} {m t : Value} {b : Bx} (h : OwnBx B W m t b) : OwnBx B W.drew m t b := ⟨h.1, h.2⟩
theorem OwnMl.drew {B : Nat} {W : World} {v : Value} {l : List Ml} (h : OwnMl B W v l) : OwnMl B W.drew v l := h
theorem OwnTb.drew {B : Nat} {W : World} {v : Value} {l : List Tb} (h : OwnTb B W v l) : OwnTb B W.drew v l := h
theorem below_y {w W W' : World} (h : Below w.heap.size w W) (hb : Below W.heap.size W W') : Below w.heap.size w W' := h.trans (hb.mono h.size)
end Go.Proofs.YtlngjflhbkannaaGreat
