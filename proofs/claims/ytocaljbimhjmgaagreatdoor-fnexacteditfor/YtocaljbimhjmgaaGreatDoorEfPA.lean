/- Several texts in one. -/
import Derived.Test.YtocaljbimhjmgaaGreatDoorEpA
import Derived.Test.YtocaljbimhjmgaaGreatDoorMmA
import Derived.Test.YtocaljbimhjmgaaGreatDoorDcA
import Derived.Test.YtocaljbimhjmgaaGreatDoorFlB
import Derived.Test.YtocaljbimhjmgaaGreatDoorIrA
import Derived.Test.YtocaljbimhjmgaaGreatDoorRsA
import Derived.Test.YtocaljbimhjmgaaGreatDoorCloneI
import Derived.Test.YtocaljbimhjmgaaGreatDoorEdM2
import Derived.Test.YtocaljbimhjmgaaGreatDoorEdM4
namespace Go.Proofs.YtocaljbimhjmgaaGreatDoor
open Go.RowKit
open Plain
set_option linter.unusedVariables false
set_option linter.unusedSimpArgs false
namespace Plain
def mkW : List UInt8 := [109, 97, 107, 101]
def drW : List UInt8 := [100, 114, 111, 112]
def adW : List UInt8 := [97, 100, 100]
def stW : List UInt8 := [115, 116, 111, 114, 101]
def exW : List UInt8 := [101, 120, 112, 117, 110, 103, 101]
def cpW : List UInt8 := [99, 111, 112, 121]
def mvW : List UInt8 := [109, 111, 118, 101]
abbrev nb : ByteArray := ⟨#[]⟩
abbrev ba (x : List UInt8) : ByteArray := ⟨x.toArray⟩
abbrev e0 : Ed := ⟨0, nb, nb, [], 0, 0, 0, nb⟩
def howP (x : List UInt8) : Int := if x = [61] then 1 else if x = [43] then 2 else if x = [45] then 3 else 0
def numP (m : List UInt8) : Int × Bool := if decVal m ≤ 1000000000 ∧ Lib.decDigits (decVal m) = m then ((decVal m : Int), true) else (0, false)
theorem ansD_num (m : List UInt8) : ansD m = .tuple #[.int .i64 (numP m).1, .bool (numP m).2] := by
  unfold ansD numP
  split <;> rfl
abbrev allR : List Rg := [⟨1, 9999⟩]
abbrev setP (x : List UInt8) : List Rg := (readV x 9999).1
abbrev setB (x : List UInt8) : Bool := (readV x 9999).2
/-- What the words tell, ahead of the asking whether it is right. -/
def rawE (box : ByteArray) (l : List (List UInt8)) : Ed × Bool :=
  match l with
  | [n] => if n = exW then (⟨5, box, nb, allR, 0, 0, 0, nb⟩, true) else (e0, false)
  | [n, a] => if n = mkW then (⟨1, ba a, nb, [], 0, 0, 0, nb⟩, true) else if n = drW then (⟨2, ba a, nb, [], 0, 0, 0, nb⟩, true) else if n = exW then (⟨5, box, nb, setP a, 0, 0, 0, nb⟩, setB a) else (e0, false)
  | [n, a, b] => if n = cpW then (⟨6, box, ba b, setP a, 0, 0, 0, nb⟩, setB a) else if n = mvW then (⟨7, box, ba b, setP a, 0, 0, 0, nb⟩, setB a) else (e0, false)
  | [n, a, b, c] => if n = adW then (⟨3, ba a, nb, [], 0, (readF b).1, 0, ba c⟩, (readF b).2) else if n = stW then (⟨4, box, nb, setP a, howP b, (readF c).1, -1, nb⟩, setB a && (readF c).2) else (e0, false)
  | [n, a, b, c, d] => if n = stW then (⟨4, box, nb, setP a, howP b, (readF c).1, (numP d).1, nb⟩, setB a && (readF c).2 && (numP d).2) else (e0, false)
  | _ => (e0, false)
/-- What is answered. -/
def ansE (box : ByteArray) (l : List (List UInt8)) : Ed × Bool := if ((rawE box l).2 && okE (rawE box l).1) = true then ((rawE box l).1, true) else (e0, false)
theorem ansE_no {box : ByteArray} {l : List (List UInt8)} (h : ((rawE box l).2 && okE (rawE box l).1) = false) : ansE box l = (e0, false) := if_neg (by rw [h]; decide)
theorem ansE_yes {box : ByteArray} {l : List (List UInt8)} (h : ((rawE box l).2 && okE (rawE box l).1) = true) : ansE box l = ((rawE box l).1, true) := if_pos h
theorem readV_few (x : List UInt8) (n : Int) : (readV x n).1.length ≤ 1048576 := by
  unfold readV
  split
  · unfold setV
    split
    · rename_i h; exact Nat.le_trans h (by decide)
    · exact Nat.zero_le _
  · exact Nat.zero_le _
theorem nameOk_nil : nameOkL ([] : List UInt8) = false := by rfl
/-- Nothing is done of a box that has no name. -/
theorem ok_nobox {e : Ed} (h : e.box = nb) : okE e = false := by
  have q : nameOkL e.box.data.toList = false := by rw [h]; exact nameOk_nil
  unfold okE
  rw [q]
  simp
/-- None of its words is longer than a command is. -/
abbrev fewW (l : List (List UInt8)) : Prop := ∀ x ∈ l, x.length ≤ 1048576
theorem ba_size {l : List (List UInt8)} {x : List UInt8} (h : fewW l) (hx : x ∈ l) : (ba x).size ≤ 1048576 := by show x.toArray.size ≤ _; simpa using h x hx
theorem raw_small {box : ByteArray} {l : List (List UInt8)} (hb : box.size ≤ 1048576) (h : fewW l) : SmallEd 1048576 (rawE box l).1 := by
  have z : nb.size ≤ 1048576 := by decide
  have s0 : SmallEd 1048576 e0 := ⟨z, z, z, Nat.zero_le _⟩
  unfold rawE
  split
  · split
    · exact ⟨hb, z, by show 1 ≤ _; decide, z⟩
    · exact s0
  · split
    · exact ⟨ba_size h (by simp), z, Nat.zero_le _, z⟩
    · split
      · exact ⟨ba_size h (by simp), z, Nat.zero_le _, z⟩
      · split
        · exact ⟨hb, z, readV_few _ _, z⟩
        · exact s0
  · split
    · exact ⟨hb, ba_size h (by simp), readV_few _ _, z⟩
    · split
      · exact ⟨hb, ba_size h (by simp), readV_few _ _, z⟩
      · exact s0
  · split
    · exact ⟨ba_size h (by simp), z, Nat.zero_le _, ba_size h (by simp)⟩
    · split
      · exact ⟨hb, z, readV_few _ _, z⟩
      · exact s0
  · split
    · exact ⟨hb, z, readV_few _ _, z⟩
    · exact s0
  · exact s0
theorem raw_few (box : ByteArray) (l : List (List UInt8)) : (rawE box l).1.set.length ≤ 1048576 := by
  have z : (e0 : Ed).set.length ≤ 1048576 := Nat.zero_le _
  have y : allR.length ≤ 1048576 := by decide
  unfold rawE
  split
  · split
    · exact y
    · exact z
  · split
    · exact z
    · split
      · exact z
      · split
        · exact readV_few _ _
        · exact z
  · split
    · exact readV_few _ _
    · split
      · exact readV_few _ _
      · exact z
  · split
    · exact z
    · split
      · exact readV_few _ _
      · exact z
  · split
    · exact readV_few _ _
    · exact z
  · exact z
theorem ans_few (box : ByteArray) (l : List (List UInt8)) : (ansE box l).1.set.length ≤ 1048576 := by
  unfold ansE
  split
  · exact raw_few _ _
  · exact Nat.zero_le _
/-- The seven commands: a name, and how many words stand behind it. -/
def tabN : Nat → List UInt8 × Int × Int
  | 0 => (mkW, 1, 1)
  | 1 => (drW, 1, 1)
  | 2 => (adW, 3, 3)
  | 3 => (stW, 3, 4)
  | 4 => (exW, 0, 1)
  | 5 => (cpW, 2, 2)
  | _ => (mvW, 2, 2)
def fitW (x : List UInt8 × Int × Int) (l : List (List UInt8)) : Bool := decide (0 < l.length) && (l.headD [] == x.1) && inI ((l.length : Int) - 1) x.2.1 x.2.2
end Plain
end Go.Proofs.YtocaljbimhjmgaaGreatDoor

namespace Go.Proofs.YtocaljbimhjmgaaGreatDoor
open Go.RowKit Go.ChangeAt
open Plain
set_option linter.unusedVariables false
set_option linter.unusedSimpArgs false
theorem gPowE : Tryz.prog.globalNamed "internal/strconv.uint64pow10" = some 6 := by kernel_rfl
def PowE (w : World) : Prop := Lib.TabIs Tryz.prog w "internal/strconv.uint64pow10" .u64 Lib.pow10Tab
theorem PowE.below {w w1 : World} (ht : PowE w) (h : Below w.heap.size w w1) : PowE w1 :=
  var?_below h gPowE (World.block_lt_of_cell? w _ (ht.cell gPowE 0 (by decide))) ht
structure EEnv (w : World) : Prop where
  nam : Named w
  err : ErrOk w
  pow : PowE w
theorem EEnv.below {w w1 : World} (h : EEnv w) (hb : Below w.heap.size w w1) : EEnv w1 := ⟨h.nam.below hb, h.err.below hb, h.pow.below hb⟩
abbrev rowRg (a : Option Addr) (c : Nat) (l : List Rg) : Pc := .row a l.length c 87 2 (rgs l)
/-- Words that stand in a row of their own. -/
def SeeW (W : World) (a : Option Addr) (l : List (List UInt8)) : Prop := ∀ k x, l[k]? = some x → ∃ g, a = some ⟨g, 0, none⟩ ∧ HasCell W g k (.string ⟨x.toArray⟩)
theorem SeeW.up {w w' : World} {a : Option Addr} {l : List (List UInt8)} (h : SeeW w a l) (hb : Below w.heap.size w w') : SeeW w' a l := fun k x hx => by
  obtain ⟨g, e, ⟨h1⟩⟩ := h k x hx
  exact ⟨g, e, ⟨(hb.cell (p := ⟨g, k, none⟩) (World.block_lt_of_cell? w _ h1)).trans h1⟩⟩
section
variable {w W : World} {L : List Pc}
theorem iSet_mem (x : List UInt8) [M : Mem w W L] (hx : x.length ≤ 1048576) (he : EEnv W) :
    Calls Tryz.prog 67 #[.string ⟨x.toArray⟩, .int .i64 9999] W fun e W' => ∃ a c, e = .returned (.tuple #[.slice a (setP x).length c, .bool (setB x)]) ∧ Mem w W' (rowRg a c (setP x) :: L) :=
  (impl_ReadSet_any ⟨x.toArray⟩ 9999 W (by show x.toArray.size ≤ _; simpa using hx) he.err).mono fun e W' ⟨v, h1, h2, h3⟩ => by
    obtain ⟨a, c, rfl⟩ := g_shape h2
    exact ⟨a, c, h1, M.more1 (Mem.of_row h2 h3)⟩
theorem sSet_mem (x : List UInt8) [M : Mem w W L] (hx : x.length ≤ 1048576) :
    Calls Tryz.prog 37 #[.string ⟨x.toArray⟩, .int .i64 9999] W fun e W' => ∃ a c, e = .returned (.tuple #[.slice a (setP x).length c, .bool (setB x)]) ∧ Mem w W' (rowRg a c (setP x) :: L) :=
  (spec_ReadSet_any ⟨x.toArray⟩ 9999 W (by show x.toArray.size ≤ _; simpa using hx)).mono fun e W' ⟨v, h1, h2, h3⟩ => by
    obtain ⟨a, c, rfl⟩ := g_shape h2
    exact ⟨a, c, h1, M.more1 (Mem.of_row h2 h3)⟩
theorem iFlags_mem (x : List UInt8) [M : Mem w W L] (hx : x.length ≤ 1048576) (he : EEnv W) :
    Calls Tryz.prog 66 #[.string ⟨x.toArray⟩] W fun e W' => e = .returned (.tuple #[.int .i64 (readF x).1, .bool (readF x).2]) ∧ Mem w W' L :=
  (impl_ReadFlags_any ⟨x.toArray⟩ W (by show x.toArray.size ≤ _; simpa using hx) he.nam).mono fun e W' ⟨h1, h2⟩ => ⟨h1, M.more0 h2⟩
theorem sFlags_mem (x : List UInt8) [M : Mem w W L] (hx : x.length ≤ 1048576) :
    Calls Tryz.prog 18 #[.string ⟨x.toArray⟩] W fun e W' => e = .returned (.tuple #[.int .i64 (readF x).1, .bool (readF x).2]) ∧ Mem w W' L :=
  (spec_ReadFlags_any ⟨x.toArray⟩ W (by show x.toArray.size ≤ _; simpa using hx)).mono fun e W' ⟨h1, h2⟩ => ⟨h1, M.more0 h2⟩
theorem iDec_mem (x : List UInt8) [M : Mem w W L] (hx : x.length ≤ 1048576) (he : EEnv W) :
    Calls Tryz.prog 84 #[.string ⟨x.toArray⟩] W fun e W' => e = .returned (.tuple #[.int .i64 (numP x).1, .bool (numP x).2]) ∧ Mem w W' L := by
  rw [← ansD_num]
  exact (impl_ReadDecimal_any ⟨x.toArray⟩ W (by show x.toArray.size ≤ _; simpa using hx) he.pow).mono fun e W' ⟨h1, h2⟩ => ⟨h1, M.more0 h2⟩
theorem sDec_mem (x : List UInt8) [M : Mem w W L] (hx : x.length ≤ 1048576) :
    Calls Tryz.prog 39 #[.string ⟨x.toArray⟩] W fun e W' => e = .returned (.tuple #[.int .i64 (numP x).1, .bool (numP x).2]) ∧ Mem w W' L := by
  rw [← ansD_num]
  by_cases h : x.length ≤ 10
  · exact (spec_ReadDecimal_in ⟨x.toArray⟩ W (by show x.toArray.size ≤ _; simpa using h)).mono fun e W' ⟨h1, h2⟩ => ⟨h1, M.more0 h2⟩
  · exact (spec_ReadDecimal_long ⟨x.toArray⟩ W (by show _ < x.toArray.size; simpa using h)).mono fun e W' ⟨h1, h2⟩ => ⟨h1, M.more0 h2⟩
theorem iClone_mem (s : ByteArray) [M : Mem w W L] (hx : s.size ≤ 1048576) :
    Calls Tryz.prog 58 #[.string s] W fun e W' => e = .returned (.string s) ∧ Mem w W' L :=
  (Clone_any s W (by omega)).mono fun e W' ⟨h1, h2⟩ => ⟨h1, M.more0 h2⟩
theorem iOk_mem (e : Ed) (a : Option Addr) (c : Nat) {f : Pc → List Pc} [M : Mem w W L] [h : InL L (rowRg a c e.set) f] (hs : SmallEd 1048576 e) :
    Calls Tryz.prog 25 #[edV e (.slice a e.set.length c)] W fun x W' => x = .returned (.bool (okE e)) ∧ Mem w W' L :=
  (impl_EditOk_mem e a c W hs (OwnR.wide (M.get (rowRg a c e.set)))).mono fun e W' ⟨h1, h2⟩ => ⟨h1, M.more h2⟩
theorem sOk_mem (e : Ed) (a : Option Addr) (c : Nat) {f : Pc → List Pc} [M : Mem w W L] [h : InL L (rowRg a c e.set) f] (hs : SmallEd 1048576 e) :
    Calls Tryz.prog 20 #[edV e (.slice a e.set.length c)] W fun x W' => x = .returned (.bool (okE e)) ∧ Mem w W' L :=
  (spec_EditOk_mem e a c w.heap.size W hs (M.get (rowRg a c e.set))).mono fun e W' ⟨h1, h2⟩ => ⟨h1, M.more h2⟩
end
end Go.Proofs.YtocaljbimhjmgaaGreatDoor
