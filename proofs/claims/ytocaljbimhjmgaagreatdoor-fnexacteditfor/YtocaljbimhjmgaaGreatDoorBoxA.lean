/- Several texts in one: MailRow, MailMarks, TombRow, TombMarks, BoxVal, BoxMarks, BoxLed. Made by fuse_tl.py. -/
import Derived.Test.YtocaljbimhjmgaaGreatDoorProg
import Derived.Test.YtocaljbimhjmgaaGreatDoorRowsA
import Derived.Test.YtocaljbimhjmgaaGreatDoorRegA
import Derived.Test.YtocaljbimhjmgaaGreatDoorBmA
import Derived.Deep.Slices
import Derived.Deep.Strs
import Derived.ChangeArms
import Derived.OpenShut
import Derived.Deep.RegionHeld3
import Derived.Deep.QuietTactic
import Derived.BigQuiet
import Derived.WalkSmall
/- Rows of Mails: what the laws' own helpers do to them; rows that came in. Made by gen_rows.py. -/
namespace Go.Proofs.YtocaljbimhjmgaaGreatDoor
open Go.RowKit Go.ChangeShapes Go.WideShapes Go.ChangeAt Go.Deep
open Plain
set_option linter.unusedVariables false
set_option linter.unusedSimpArgs false

namespace Plain
structure Ml where
  uid : Int
  flags : Int
  mod : Int
  text : ByteArray
end Plain
/-- Elements that came in, below block B. -/
def ArgMl (B : Nat) (w : World) (a : Option Addr) (l : List Ml) : Prop :=
  ∀ i f, l[i]? = some f → ∃ x, a = some x ∧ x.block < B ∧ f.text.size ≤ maxLen ∧ w.cell? (x.add (i * 4)) = some (.int .i64 f.uid) ∧ w.cell? ⟨(x.add (i * 4)).block, (x.add (i * 4)).off + 1, none⟩ = some (.int .i64 f.flags) ∧ w.cell? ⟨(x.add (i * 4)).block, (x.add (i * 4)).off + 2, none⟩ = some (.int .i64 f.mod) ∧ w.cell? ⟨(x.add (i * 4)).block, (x.add (i * 4)).off + 3, none⟩ = some (.string f.text)
theorem ArgMl.below {B : Nat} {w w' : World} {a : Option Addr} {l : List Ml} (h : ArgMl B w a l) (hb : Below B w w') : ArgMl B w' a l := by
  intro i f hf
  obtain ⟨x, h1, h2, z0, c0, c1, c2, c3⟩ := h i f hf
  have hb2 : (x.add (i * 4)).block < B := by rw [g_add]; exact h2
  exact ⟨x, h1, h2, z0, (hb.cell hb2).trans c0, (hb.cell (p := ⟨(x.add (i * 4)).block, _, none⟩) hb2).trans c1, (hb.cell (p := ⟨(x.add (i * 4)).block, _, none⟩) hb2).trans c2, (hb.cell (p := ⟨(x.add (i * 4)).block, _, none⟩) hb2).trans c3⟩
theorem ArgMl.up {w w' : World} {a : Option Addr} {l : List Ml} (h : ArgMl w.heap.size w a l) (hb : Below w.heap.size w w') : ArgMl w'.heap.size w' a l := by
  intro i f hf
  obtain ⟨x, h1, h2, h3⟩ := h.below hb i f hf
  exact ⟨x, h1, Nat.lt_of_lt_of_le h2 hb.size, h3⟩

end Go.Proofs.YtocaljbimhjmgaaGreatDoor

/- Rows of Mails that are the same; marks in them. Made by gen_rows.py. -/
namespace Go.Proofs.YtocaljbimhjmgaaGreatDoor
open Go.RowKit
open Plain
set_option linter.unusedVariables false

namespace Plain
end Plain
end Go.Proofs.YtocaljbimhjmgaaGreatDoor

/- Rows of Tombs: what the laws' own helpers do to them; rows that came in. Made by gen_rows.py. -/
namespace Go.Proofs.YtocaljbimhjmgaaGreatDoor
open Go.RowKit Go.ChangeShapes Go.WideShapes Go.ChangeAt Go.Deep
open Plain
set_option linter.unusedVariables false
set_option linter.unusedSimpArgs false

namespace Plain
structure Tb where
  uid : Int
  mod : Int
end Plain
/-- Elements that came in, below block B. -/
def ArgTb (B : Nat) (w : World) (a : Option Addr) (l : List Tb) : Prop :=
  ∀ i f, l[i]? = some f → ∃ x, a = some x ∧ x.block < B ∧ w.cell? (x.add (i * 2)) = some (.int .i64 f.uid) ∧ w.cell? ⟨(x.add (i * 2)).block, (x.add (i * 2)).off + 1, none⟩ = some (.int .i64 f.mod)
theorem ArgTb.below {B : Nat} {w w' : World} {a : Option Addr} {l : List Tb} (h : ArgTb B w a l) (hb : Below B w w') : ArgTb B w' a l := by
  intro i f hf
  obtain ⟨x, h1, h2, c0, c1⟩ := h i f hf
  have hb2 : (x.add (i * 2)).block < B := by rw [g_add]; exact h2
  exact ⟨x, h1, h2, (hb.cell hb2).trans c0, (hb.cell (p := ⟨(x.add (i * 2)).block, _, none⟩) hb2).trans c1⟩
theorem ArgTb.up {w w' : World} {a : Option Addr} {l : List Tb} (h : ArgTb w.heap.size w a l) (hb : Below w.heap.size w w') : ArgTb w'.heap.size w' a l := by
  intro i f hf
  obtain ⟨x, h1, h2, h3⟩ := h.below hb i f hf
  exact ⟨x, h1, Nat.lt_of_lt_of_le h2 hb.size, h3⟩

end Go.Proofs.YtocaljbimhjmgaaGreatDoor

/- Rows of Tombs that are the same; marks in them. Made by gen_rows.py. -/
namespace Go.Proofs.YtocaljbimhjmgaaGreatDoor
open Go.RowKit
open Plain
set_option linter.unusedVariables false

namespace Plain
end Plain
end Go.Proofs.YtocaljbimhjmgaaGreatDoor

/- Boxes as values: what the laws' own helpers do to them. Made by gen_boxval.py. -/
namespace Go.Proofs.YtocaljbimhjmgaaGreatDoor
open Go.RowKit Go.ChangeShapes Go.WideShapes Go.ChangeAt Go.Deep
open Plain
set_option linter.unusedVariables false
set_option linter.unusedSimpArgs false

namespace Plain
structure Bx where
  name : ByteArray
  valid : Int
  next : Int
  mod : Int
  mails : List Ml
  tombs : List Tb
  hor : Int
end Plain
/-- A box that came in. -/
structure ArgBx (B : Nat) (w : World) (a1 a2 : Option Addr) (b : Bx) : Prop where
  name : b.name.size ≤ maxLen
  m1 : b.mails.length ≤ maxLen
  m2 : b.tombs.length ≤ maxLen
  mails : ArgMl B w a1 b.mails
  tombs : ArgTb B w a2 b.tombs
theorem ArgBx.below {B : Nat} {w w' : World} {a1 a2 : Option Addr} {b : Bx} (h : ArgBx B w a1 a2 b) (hb : Below B w w') : ArgBx B w' a1 a2 b := ⟨h.name, h.m1, h.m2, h.mails.below hb, h.tombs.below hb⟩
theorem ArgBx.up {w w' : World} {a1 a2 : Option Addr} {b : Bx} (h : ArgBx w.heap.size w a1 a2 b) (hb : Below w.heap.size w w') : ArgBx w'.heap.size w' a1 a2 b := ⟨h.name, h.m1, h.m2, h.mails.up hb, h.tombs.up hb⟩

end Go.Proofs.YtocaljbimhjmgaaGreatDoor

/- Boxes: sizes, sameness, marks; a box that came in, opened. Made by gen_boxmarks.py. -/
namespace Go.Proofs.YtocaljbimhjmgaaGreatDoor
open Go.RowKit Go.ChangeShapes Go.WideShapes Go.ChangeAt Go.Deep
open Plain
set_option linter.unusedVariables false
set_option linter.unusedSimpArgs false

end Go.Proofs.YtocaljbimhjmgaaGreatDoor

/- The ledger of the laws on boxes: what every step carries on. -/
namespace Go.Proofs.YtocaljbimhjmgaaGreatDoor
open Go.RowKit
open Plain
set_option linter.unusedVariables false

theorem HasObj.drew {W : World} {b : Nat} {t : TypeId} {vs : List Value} (h : HasObj W b t vs) : HasObj W.drew b t vs := h
theorem below_y {w W W' : World} (h : Below w.heap.size w W) (hb : Below W.heap.size W W') : Below w.heap.size w W' := h.trans (hb.mono h.size)
end Go.Proofs.YtocaljbimhjmgaaGreatDoor
