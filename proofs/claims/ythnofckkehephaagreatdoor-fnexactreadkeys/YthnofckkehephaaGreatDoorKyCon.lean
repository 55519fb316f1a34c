/- What the reading of keys leans on. Made by gen_keyi.py. -/
import Derived.Test.YthnofckkehephaaGreatDoorKyPlain
import Derived.Test.YthnofckkehephaaGreatDoorFlagOneI
import Derived.Test.YthnofckkehephaaGreatDoorImplReadSet
import Derived.Test.YthnofckkehephaaGreatDoorReadSetW
import Derived.Test.YthnofckkehephaaGreatDoorRDec
import Derived.Test.YthnofckkehephaaGreatDoorCloneI
import Derived.Test.YthnofckkehephaaGreatDoorBoxNameI
import Derived.Test.YthnofckkehephaaGreatDoorTrimPlain
namespace Go.Proofs.YthnofckkehephaaGreatDoor
open Go.RowKit Go.ChangeShapes Go.WideShapes Go.ChangeAt Go.Deep
open Plain
set_option linter.unusedVariables false
set_option linter.unusedSimpArgs false

theorem fill3 {W : World} {r : Nat} {t : TypeId} {v0 v1 v2 : Value} (h : HasObj W r t [v0, v1, v2]) (u0 u1 u2 : Value) :
    Filled W r t [u0, u1, u2] (((W.setCell ⟨r, 0, none⟩ u0).setCell ⟨r, 1, none⟩ u1).setCell ⟨r, 2, none⟩ u2) := by
  have h1 := h.set 0 u0
  have h2 := h1.set 1 u1
  have h3 := h2.set 2 u2
  refine ⟨h3, fun hne hb => ?_, fun hte hr => ?_, fun hn hb => ?_, by simp⟩
  · exact (((hb.other (j := 0) hne u0).other (j := 1) hne u1).other (j := 2) hne u2)
  · exact (h2.row (j := 2) hte (h1.row (j := 1) hte (h.row (j := 0) hte hr u0) u1) u2)
  · exact (((hb.setCell (p := ⟨r, 0, none⟩) hn u0).setCell (p := ⟨r, 1, none⟩) hn u1).setCell (p := ⟨r, 2, none⟩) hn u2)
theorem gPowK : Tryz.prog.globalNamed "internal/strconv.uint64pow10" = some 6 := by kernel_rfl
def PowK (w : World) : Prop := Lib.TabIs Tryz.prog w "internal/strconv.uint64pow10" .u64 Lib.pow10Tab
theorem PowK.below {w w1 : World} (ht : PowK w) (h : Below w.heap.size w w1) : PowK w1 :=
  var?_below h gPowK (World.block_lt_of_cell? w _ (ht.cell gPowK 0 (by decide))) ht
structure KEnv (w : World) : Prop where
  nam : Named w
  err : ErrOk w
  pow : PowK w
theorem KEnv.below {w w1 : World} (h : KEnv w) (hb : Below w.heap.size w w1) : KEnv w1 := ⟨h.nam.below hb, h.err.below hb, h.pow.below hb⟩
theorem cutUn_any (x : List UInt8) (w : World) : Calls Tryz.prog 29 #[.string ⟨x.toArray⟩, .string ⟨#[117, 110]⟩] w fun e w' => e = .returned (.tuple #[.string ⟨(if x.take 2 = unW then x.drop 2 else x).toArray⟩, .bool (decide (x.take 2 = unW))]) ∧ w' = w := by
  have q := Tryz.strings_CutPrefix ⟨x.toArray⟩ ⟨#[117, 110]⟩ w
  refine q.mono fun e w' ⟨h1, h2⟩ => ⟨?_, h2⟩
  rw [h1]
  by_cases h : x.take 2 = unW
  · have p := pre_yes (u := x) (x := unW) h
    rw [if_pos h, decide_eq_true h]
    exact congrArg Ending.returned (by rw [show ((⟨x.toArray⟩ : ByteArray).data.toList) = x from rfl, show ((⟨#[117, 110]⟩ : ByteArray).data.toList) = unW from rfl, p.1, p.2] <;> rfl)
  · have p := pre_no (u := x) (x := unW) h
    rw [if_neg h, decide_eq_false h]
    exact congrArg Ending.returned (by rw [show ((⟨x.toArray⟩ : ByteArray).data.toList) = x from rfl, show ((⟨#[117, 110]⟩ : ByteArray).data.toList) = unW from rfl, p.1, p.2] <;> rfl)
theorem kFlag_any (x : List UInt8) (w : World) (h : KEnv w) : Calls Tryz.prog 30 #[.string ⟨x.toArray⟩] w fun e w' => e = .returned (.tuple #[.int .i64 (bitV x), .bool (!bitV x == 0)]) ∧ Below w.heap.size w w' := flagNamed_any x w h.nam
theorem kSet_any (x : List UInt8) (w : World) (hx : x.length ≤ 1048576) (h : KEnv w) : Calls Tryz.prog 33 #[.string ⟨x.toArray⟩, .int .i64 9999] w fun e w' => ∃ v', e = .returned (.tuple #[v', .bool (readV x 9999).2]) ∧ Below w.heap.size w w' :=
  (impl_ReadSet_any ⟨x.toArray⟩ 9999 w (by show x.toArray.size ≤ _; simpa using hx) h.err).mono fun e w' ⟨v, h1, _, h2⟩ => ⟨v, h1, h2⟩
theorem kDec_any (x : List UInt8) (w : World) (hx : x.length ≤ 1048576) (h : KEnv w) : Calls Tryz.prog 34 #[.string ⟨x.toArray⟩] w fun e w' => e = .returned (.tuple #[.int .i64 (decP x).1, .bool (decP x).2]) ∧ Below w.heap.size w w' := by
  rw [← ansD_is]
  exact impl_ReadDecimal_any ⟨x.toArray⟩ w (by show x.toArray.size ≤ _; simpa using hx) h.pow
theorem kClone_any (x : List UInt8) (w : World) (hx : x.length ≤ 1048576) : Calls Tryz.prog 31 #[.string ⟨x.toArray⟩] w fun e w' => e = .returned (.string ⟨x.toArray⟩) ∧ Below w.heap.size w w' :=
  Clone_any ⟨x.toArray⟩ w (by show x.toArray.size ≤ _; rw [List.size_toArray]; omega)
theorem sSet_any (x : List UInt8) (w : World) (hx : x.length ≤ 1048576) : Calls Tryz.prog 15 #[.string ⟨x.toArray⟩, .int .i64 9999] w fun e w' => ∃ v', e = .returned (.tuple #[v', .bool (readV x 9999).2]) ∧ Below w.heap.size w w' :=
  (spec_ReadSet_any ⟨x.toArray⟩ 9999 w (by show x.toArray.size ≤ _; simpa using hx)).mono fun e w' ⟨v, h1, _, h2⟩ => ⟨v, h1, h2⟩
theorem sDec_any (x : List UInt8) (w : World) (hx : x.length ≤ 1048576) : Calls Tryz.prog 16 #[.string ⟨x.toArray⟩] w fun e w' => e = .returned (.tuple #[.int .i64 (decP x).1, .bool (decP x).2]) ∧ Below w.heap.size w w' := by
  rw [← ansD_is]
  by_cases h : x.length ≤ 10
  · exact spec_ReadDecimal_in ⟨x.toArray⟩ w (by show x.toArray.size ≤ _; simpa using h)
  · exact spec_ReadDecimal_long ⟨x.toArray⟩ w (by show _ < x.toArray.size; simpa using h)
end Go.Proofs.YthnofckkehephaaGreatDoor
