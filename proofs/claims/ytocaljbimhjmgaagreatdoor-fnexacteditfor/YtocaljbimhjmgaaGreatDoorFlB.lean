/- Several texts in one. -/
import Derived.Test.YtocaljbimhjmgaaGreatDoorProg
import Derived.Lib.LaidTab
import Derived.Below
import Derived.Test.YtocaljbimhjmgaaGreatDoorBmA
import Derived.Test.YtocaljbimhjmgaaGreatDoorPlainA
import Derived.Test.YtocaljbimhjmgaaGreatDoorFlagA
import Derived.Test.YtocaljbimhjmgaaGreatDoorShelf
import Derived.WalkSmall
import Derived.Lib.Strings
import Derived.Test.YtocaljbimhjmgaaGreatDoorRowsA
import Derived.Test.YtocaljbimhjmgaaGreatDoorRangeMoves
import Derived.RangeFuncNested
import Derived.RangeFuncBox
import Derived.RangeFuncBound
import Derived.RangeFuncCalls
import Derived.RangeFuncLeaves
import Derived.Shelf.Abstract
import Derived.Shelf.RegionOpen
import Derived.WalkKit
import Derived.OwnWalkIn
import Derived.TacticsInMore
import Derived.LoopNIn
import Derived.LoopIn
import Derived.Maps.AppendAt
namespace Go.Proofs.YtocaljbimhjmgaaGreatDoor
open Go Go.RowKit
set_option linter.unusedVariables false

def strData {H : Type} (ss : List (List UInt8)) : DataW H := .agg (ss.map fun s => .lit (.string s))
/-- The variable holds just these strings. -/
def StrIs (P : Program) (w : World) (name : String) (ss : List (List UInt8)) : Prop := w.var? P name = some (ss.map fun s => Value.string ⟨s.toArray⟩).toArray
theorem cells_of_strs {H : Type} {enc : TypeId × Value → H} {P : Program} {w : World} {base : Nat} {sp : Nat → Bool} {held : Bool} {fuel : Nat} {t e : TypeId} {n : Nat} {cs : List Value} {ss : List (List UInt8)} {p : List MemPlace}
    (ht : P.underlying t = some (.array n e)) (he : P.underlying e = some .string) (hce : P.cellsOf e = 1) (hct : P.cellsOf t = n)
    (h : DataW.trod enc P w base sp held fuel t cs = some (strData ss, p)) : cs = ss.map fun s => Value.string ⟨s.toArray⟩ := by
  cases fuel with
  | zero => simp [DataW.trod] at h
  | succ fuel =>
    simp only [DataW.trod, ht, hce, hct, Nat.mul_one] at h
    split at h
    · rename_i hl
      obtain ⟨xs, hm, hx⟩ := Option.map_eq_some_iff.1 h
      have hxs : xs.map (·.1) = ss.map fun s => (DataW.lit (.string s) : DataW H) := by
        have := congrArg Prod.fst hx
        simpa [strData] using this
      have hxl : xs.length = n := by simpa using Lib.mapM_length hm
      have hzl : ss.length = n := by
        have := congrArg List.length hxs
        simp at this
        omega
      apply List.ext_getElem?
      intro i
      by_cases hi : i < n
      · obtain ⟨b, hb, hf⟩ := Lib.mapM_at hm i i (by simp [hi])
        obtain ⟨z, hc, rfl, _⟩ := DataW.trod_string he hf
        have h1 : cs[i]? = some (.string z) := by
          have := congrArg (·[0]?) hc
          simpa [List.getElem?_take, List.getElem?_drop] using this
        have h2 : (xs.map (·.1))[i]? = some (DataW.lit (.string z.data.toList) : DataW H) := by simp [hb]
        rw [hxs] at h2
        simp only [List.getElem?_map, Option.map_eq_some_iff, DataW.lit.injEq, Lit.string.injEq] at h2
        obtain ⟨z', hz', e'⟩ := h2
        subst e'
        simp [h1, hz']
      · rw [List.getElem?_eq_none (by omega), List.getElem?_eq_none (by simp; omega)]
    · cases h
theorem strIs_of_head {P : Program} {W : World} {name : String} {ss : List (List UInt8)} {rest : List (String × DataW Unit)} {g : Nat} {t e : TypeId} {n : Nat}
    (hg : P.globalNamed name = some g) (hty : (P.globals[g]?).map (·.type) = some t) (ht : P.underlying t = some (.array n e)) (he : P.underlying e = some .string) (hce : P.cellsOf e = 1) (hct : P.cellsOf t = n)
    (h : laidMet P ((name, strData ss) :: rest) W) : StrIs P W name ss := by
  obtain ⟨ps, ⟨g', t', cs, fuel, p, q, hg', ht', hvar, hd, _, _⟩, _⟩ := h
  obtain rfl := Option.some.inj (hg.symm.trans hg')
  obtain rfl := Option.some.inj (hty.symm.trans ht')
  unfold StrIs
  rw [hvar, ← cells_of_strs ht he hce hct hd]
theorem StrIs.cell {P : Program} {W : World} {name : String} {ss : List (List UInt8)} {g : Nat} (h : StrIs P W name ss) (hg : P.globalNamed name = some g) (i : Nat) {s : List UInt8} (hi : ss[i]? = some s) :
    W.cell? ⟨g, i, none⟩ = some (.string ⟨s.toArray⟩) := by
  have := World.var?_cell hg h i
  simpa [hi] using this
end Go.Proofs.YtocaljbimhjmgaaGreatDoor

namespace Go.Proofs.YtocaljbimhjmgaaGreatDoor
open Go.RowKit
open Plain
set_option linter.unusedVariables false

namespace Plain
theorem orI : ∀ a b : Fin 32, bits .or .i64 (a.val : Int) (b.val : Int) = (a.val : Int) + b.val - andTo a.val b.val 5 := by decide +kernel
theorem fin_of {a : Int} (h0 : 0 ≤ a) (h1 : a ≤ 31) : ∃ x : Fin 32, (x.val : Int) = a := ⟨⟨a.toNat, by omega⟩, by simp; omega⟩
theorem or_is {a b : Int} (h0 : 0 ≤ a) (h1 : a ≤ 31) (h2 : 0 ≤ b) (h3 : b ≤ 31) : bits .or .i64 a b = a + b - andTo a b 5 := by
  obtain ⟨x, rfl⟩ := fin_of h0 h1
  obtain ⟨y, rfl⟩ := fin_of h2 h3
  exact orI x y
end Plain

theorem impl_FlagsOk_any (b : Int) (w : World) :
    Calls Tryz.prog 173 #[.int .i64 b] w fun e w' => e = .returned (.bool (flOk b)) ∧ w' = w := by
  by_cases h : 0 ≤ b
  · have hd : decide (0 ≤ b) = true := by simpa using h
    by_cases h2 : b ≤ 31
    · have hd2 : decide (b < 32) = true := by simp; omega
      rw [flOk_in h h2]
      go_enter Tryz.func173, Tryz.ntmps173
      go_wp2
      go_ret
      exact ⟨rfl, rfl⟩
    · have hd2 : decide (b < 32) = false := by simp; omega
      rw [flOk_no (fun x => h2 x.2)]
      go_enter Tryz.func173, Tryz.ntmps173
      go_wp2
      go_ret
      exact ⟨rfl, rfl⟩
  · have hd : decide (0 ≤ b) = false := by simpa using h
    rw [flOk_no (fun x => h x.1)]
    go_enter Tryz.func173, Tryz.ntmps173
    go_wp2
    go_ret
    exact ⟨rfl, rfl⟩

theorem with_any (a b : Int) (w : World) (h0 : 0 ≤ a) (h1 : a ≤ 31) (h2 : 0 ≤ b) (h3 : b ≤ 31) :
    Calls Tryz.prog 80 #[.int .i64 a, .int .i64 b] w fun e w' => e = .returned (.int .i64 (a + b - andTo a b 5)) ∧ w' = w := by
  have b1 := or_is h0 h1 h2 h3
  generalize a + b - andTo a b 5 = z at *
  go_enter Tryz.func80, Tryz.ntmps80
  go_wp2
  go_ret
  exact ⟨rfl, rfl⟩
end Go.Proofs.YtocaljbimhjmgaaGreatDoor

namespace Go.Proofs.YtocaljbimhjmgaaGreatDoor
open Go.RowKit
open Plain
set_option linter.unusedVariables false

def Named (w : World) : Prop := StrIs Tryz.prog w "loop.example/g00247/impl.flagNames" namesL
theorem gNames : Tryz.prog.globalNamed "loop.example/g00247/impl.flagNames" = some 0 := by kernel_rfl
theorem Named.cell {w : World} (h : Named w) (i : Nat) {s : List UInt8} (hi : namesL[i]? = some s) : w.cell? ⟨0, i, none⟩ = some (.string ⟨s.toArray⟩) := StrIs.cell h gNames i hi
theorem Named.below {w w1 : World} (ht : Named w) (h : Below w.heap.size w w1) : Named w1 :=
  var?_below h gNames (World.block_lt_of_cell? w _ (ht.cell 0 rfl)) ht

theorem name0 (w : World) : (Instr.index 129 (.agg #[.string ⟨seenL.toArray⟩, .string ⟨answL.toArray⟩, .string ⟨flagL.toArray⟩, .string ⟨deleL.toArray⟩, .string ⟨drafL.toArray⟩]) (.int .i64 0)).run Tryz.prog w = .ok (.string ⟨seenL.toArray⟩) w := by kernel_rfl
theorem name1 (w : World) : (Instr.index 129 (.agg #[.string ⟨seenL.toArray⟩, .string ⟨answL.toArray⟩, .string ⟨flagL.toArray⟩, .string ⟨deleL.toArray⟩, .string ⟨drafL.toArray⟩]) (.int .i64 1)).run Tryz.prog w = .ok (.string ⟨answL.toArray⟩) w := by kernel_rfl
theorem name2 (w : World) : (Instr.index 129 (.agg #[.string ⟨seenL.toArray⟩, .string ⟨answL.toArray⟩, .string ⟨flagL.toArray⟩, .string ⟨deleL.toArray⟩, .string ⟨drafL.toArray⟩]) (.int .i64 2)).run Tryz.prog w = .ok (.string ⟨flagL.toArray⟩) w := by kernel_rfl
theorem name3 (w : World) : (Instr.index 129 (.agg #[.string ⟨seenL.toArray⟩, .string ⟨answL.toArray⟩, .string ⟨flagL.toArray⟩, .string ⟨deleL.toArray⟩, .string ⟨drafL.toArray⟩]) (.int .i64 3)).run Tryz.prog w = .ok (.string ⟨deleL.toArray⟩) w := by kernel_rfl
theorem name4 (w : World) : (Instr.index 129 (.agg #[.string ⟨seenL.toArray⟩, .string ⟨answL.toArray⟩, .string ⟨flagL.toArray⟩, .string ⟨deleL.toArray⟩, .string ⟨drafL.toArray⟩]) (.int .i64 4)).run Tryz.prog w = .ok (.string ⟨drafL.toArray⟩) w := by kernel_rfl

namespace Plain
theorem hasI : ∀ (a : Fin 32) (k : Fin 5), (bits .and .i64 (a.val : Int) (2 ^ k.val) = 0) ↔ ¬ (a.val : Int) / 2 ^ k.val % 2 = 1 := by decide +kernel
def hasV (a b : Int) : Bool := decide (a / b % 2 = 1)
theorem has_is {a : Int} (h0 : 0 ≤ a) (h1 : a ≤ 31) (k : Nat) (hk : k < 5) : (!bits .and .i64 a (2 ^ k) == 0) = hasV a (2 ^ k) := by
  obtain ⟨x, rfl⟩ := fin_of h0 h1
  have h := hasI x ⟨k, hk⟩
  unfold hasV
  cases hb : (bits .and .i64 (x.val : Int) (2 ^ k) == 0) with
  | true => rw [decide_eq_false (h.1 (by simpa using hb))]; rfl
  | false => rw [decide_eq_true (Decidable.not_not.1 (fun hn => by have := h.2 hn; rw [this] at hb; cases hb))]; rfl
end Plain
theorem has_any (a : Int) (k : Nat) (w : World) (h0 : 0 ≤ a) (h1 : a ≤ 31) (hk : k < 5) :
    Calls Tryz.prog 79 #[.int .i64 a, .int .i64 (2 ^ k)] w fun e w' => e = .returned (.bool (hasV a (2 ^ k))) ∧ w' = w := by
  have b1 := has_is h0 h1 k hk
  generalize hasV a (2 ^ k) = z at *
  generalize (2 ^ k : Int) = y at *
  obtain ⟨x, hx⟩ : ∃ x, bits .and .i64 a y = x := ⟨_, rfl⟩
  rw [hx] at b1
  have b1 := hide b1
  go_enter Tryz.func79, Tryz.ntmps79
  go_wp2
  go_ret
  exact ⟨by rw [← unhide b1]; rfl, rfl⟩
end Go.Proofs.YtocaljbimhjmgaaGreatDoor

namespace Go.Proofs.YtocaljbimhjmgaaGreatDoor
open Go.RowKit
open Plain
set_option linter.unusedVariables false

set_option maxHeartbeats 2000000 in
set_option maxRecDepth 100000 in
theorem small_any (s : ByteArray) (w : World) (hs : s.size ≤ 1048576) :
    Calls Tryz.prog 78 #[.string s] w fun e w' => e = .returned (.string ⟨(s.data.toList.map lowB).toArray⟩) ∧ Below w.heap.size w w' := by
  obtain ⟨C, w5, hconv, hcell, hfz, hb5⟩ := low_bytes w s
  have R0 : Hid (LowRow s.data.toList s.size w.heap.size 0 w5) := ⟨fun j hj => by rw [low_zero]; exact hcell j hj, hfz⟩
  have B0 := hide hb5
  have HL : Hid (s.data.toList.length = s.size) := rfl
  clear hcell hfz hb5
  go_enter Tryz.func78, Tryz.ntmps78
  go_wp2
  clear hconv
  go_loopw [10] (fun i wr => ∃ k : Nat, k ≤ s.size ∧ i = .int .i64 k ∧ LowRow s.data.toList s.size w.heap.size k wr ∧ Below w.heap.size w wr) (fun i _ => s.size - (intOf i).toNat)
  case atStart => exact ⟨0, Nat.zero_le _, rfl, unhide R0, unhide B0⟩
  case round =>
    obtain ⟨k, hk, rfl, hrow, hbel⟩ := hrel
    by_cases hlt : k < s.size
    · have ck := hrow.cell k hlt
      have fk := hrow.open_ k hlt
      rw [low_here] at ck
      have PUT := hide (hrow.put hlt)
      have ON := hide (fun h => hrow.on h)
      have IN := hide (fun a b => lowB_in (b := s.data.toList.getD k 0) a b)
      have NO := hide (fun a => lowB_no (b := s.data.toList.getD k 0) a)
      have hx : (s.data.toList.getD k 0).toNat < 256 := UInt8.toNat_lt _
      have BW := hide hbel
      clear hrow hbel
      generalize s.data.toList.getD k 0 = x at *
      have i1 : (0 : Int) ≤ (k : Int) := by omega
      have i2 : (k : Int) < (s.size : Int) := by omega
      by_cases h1 : 65 ≤ x.toNat
      · have d1 : decide ((65 : Int) ≤ (x.toNat : Int)) = true := by rw [decide_eq_true_eq]; omega
        by_cases h2 : x.toNat ≤ 90
        · have d2 : decide ((x.toNat : Int) ≤ 90) = true := by rw [decide_eq_true_eq]; omega
          have E : Hid ((lowB x).toNat = x.toNat + 32) := by
            show (lowB x).toNat = _
            rw [unhide IN h1 h2, UInt8.toNat_ofNat']
            omega
          have P := hide (unhide PUT)
          rw [unhide E] at P
          have BS := hide ((unhide BW).setCell (p := ⟨w.heap.size, k, none⟩) (Nat.le_refl _) (.int .u8 ((x.toNat + 32 : Nat) : Int)))
          have x1 : IntKind.u8.wrap ((x.toNat : Int) - 65) = (x.toNat : Int) - 65 := by rw [IntKind.wrap_u8]; omega
          have x2 : IntKind.u8.wrap ((x.toNat : Int) - 65 + 97) = (x.toNat : Int) + 32 := by rw [IntKind.wrap_u8]; omega
          clear PUT
          go_wp2
          exact ⟨⟨k + 1, by omega, by go_num, by simpa using unhide P, by simpa using unhide BS⟩, by simp [intOf]; omega⟩
        · have d2 : decide ((x.toNat : Int) ≤ 90) = false := by rw [decide_eq_false_iff_not]; omega
          have P := hide (unhide ON (unhide NO (fun h => h2 h.2)))
          go_wp2
          exact ⟨⟨k + 1, by omega, by go_num, unhide P, unhide BW⟩, by simp [intOf]; omega⟩
      · have d1 : decide ((65 : Int) ≤ (x.toNat : Int)) = false := by rw [decide_eq_false_iff_not]; omega
        have P := hide (unhide ON (unhide NO (fun h => h1 h.1)))
        go_wp2
        exact ⟨⟨k + 1, by omega, by go_num, unhide P, unhide BW⟩, by simp [intOf]; omega⟩
    · have e : k = s.size := by omega
      subst e
      have CB := (hrow.back (C := C) (unhide HL))
      have BW := hide hbel
      clear hrow hbel
      go_wp2
      go_ret
      exact ⟨rfl, unhide BW⟩
end Go.Proofs.YtocaljbimhjmgaaGreatDoor

namespace Go.Proofs.YtocaljbimhjmgaaGreatDoor
open Go.RowKit
open Plain
set_option linter.unusedVariables false

set_option maxHeartbeats 2000000 in
set_option maxRecDepth 100000 in
theorem flagNamed_any (L : List UInt8) (w : World) (hN : Named w) :
    Calls Tryz.prog 77 #[.string ⟨L.toArray⟩] w fun e w' => e = .returned (.tuple #[.int .i64 (bitV L), .bool (!bitV L == 0)]) ∧ Below w.heap.size w w' := by
  have c0 := hN.cell 0 rfl
  have c1 := hN.cell 1 rfl
  have c2 := hN.cell 2 rfl
  have c3 := hN.cell 3 rfl
  have c4 := hN.cell 4 rfl
  have B := hide (Below.refl w.heap.size w)
  clear hN
  go_enter Tryz.func77, Tryz.ntmps77
  go_wp2
  clear c0 c1 c2 c3 c4
  go_loop [7] (fun i => ∃ k : Nat, k ≤ 5 ∧ i = .int .i64 k ∧ bitV L = bitFrom L k) (fun i => 5 - (intOf i).toNat)
  case atStart => exact ⟨0, by omega, rfl, rfl⟩
  case round =>
    obtain ⟨k, hk, rfl, hv⟩ := hrel
    have HV := hide hv
    clear hv
    rcases (show k = 0 ∨ k = 1 ∨ k = 2 ∨ k = 3 ∨ k = 4 ∨ k = 5 by omega) with rfl | rfl | rfl | rfl | rfl | rfl
    · simp only [show ((0 : Nat) : Int) = 0 from rfl]
      have x0 := name0
      by_cases h1 : L = seenL
      · have V : Hid (bitV L = 1) := (unhide HV).trans (if_pos h1)
        have tT : (seenL == L) = true := by rw [h1]; decide
        clear h1 HV
        go_wp2
        go_ret2
        exact ⟨by rw [unhide V]; rfl, unhide B⟩
      · have V : Hid (bitV L = bitFrom L 1) := (unhide HV).trans (if_neg h1)
        have tF : (seenL == L) = false := by rw [beq_eq_false_iff_ne]; exact fun h => h1 h.symm
        clear h1 HV
        go_wp2
        exact ⟨⟨1, by omega, rfl, unhide V⟩, by decide⟩
    · simp only [show ((1 : Nat) : Int) = 1 from rfl]
      have x1 := name1
      by_cases h1 : L = answL
      · have V : Hid (bitV L = 2) := (unhide HV).trans (if_pos h1)
        have tT : (answL == L) = true := by rw [h1]; decide
        clear h1 HV
        go_wp2
        go_ret2
        exact ⟨by rw [unhide V]; rfl, unhide B⟩
      · have V : Hid (bitV L = bitFrom L 2) := (unhide HV).trans (if_neg h1)
        have tF : (answL == L) = false := by rw [beq_eq_false_iff_ne]; exact fun h => h1 h.symm
        clear h1 HV
        go_wp2
        exact ⟨⟨2, by omega, rfl, unhide V⟩, by decide⟩
    · simp only [show ((2 : Nat) : Int) = 2 from rfl]
      have x2 := name2
      by_cases h1 : L = flagL
      · have V : Hid (bitV L = 4) := (unhide HV).trans (if_pos h1)
        have tT : (flagL == L) = true := by rw [h1]; decide
        clear h1 HV
        go_wp2
        go_ret2
        exact ⟨by rw [unhide V]; rfl, unhide B⟩
      · have V : Hid (bitV L = bitFrom L 3) := (unhide HV).trans (if_neg h1)
        have tF : (flagL == L) = false := by rw [beq_eq_false_iff_ne]; exact fun h => h1 h.symm
        clear h1 HV
        go_wp2
        exact ⟨⟨3, by omega, rfl, unhide V⟩, by decide⟩
    · simp only [show ((3 : Nat) : Int) = 3 from rfl]
      have x3 := name3
      by_cases h1 : L = deleL
      · have V : Hid (bitV L = 8) := (unhide HV).trans (if_pos h1)
        have tT : (deleL == L) = true := by rw [h1]; decide
        clear h1 HV
        go_wp2
        go_ret2
        exact ⟨by rw [unhide V]; rfl, unhide B⟩
      · have V : Hid (bitV L = bitFrom L 4) := (unhide HV).trans (if_neg h1)
        have tF : (deleL == L) = false := by rw [beq_eq_false_iff_ne]; exact fun h => h1 h.symm
        clear h1 HV
        go_wp2
        exact ⟨⟨4, by omega, rfl, unhide V⟩, by decide⟩
    · simp only [show ((4 : Nat) : Int) = 4 from rfl]
      have x4 := name4
      by_cases h1 : L = drafL
      · have V : Hid (bitV L = 16) := (unhide HV).trans (if_pos h1)
        have tT : (drafL == L) = true := by rw [h1]; decide
        clear h1 HV
        go_wp2
        go_ret2
        exact ⟨by rw [unhide V]; rfl, unhide B⟩
      · have V : Hid (bitV L = bitFrom L 5) := (unhide HV).trans (if_neg h1)
        have tF : (drafL == L) = false := by rw [beq_eq_false_iff_ne]; exact fun h => h1 h.symm
        clear h1 HV
        go_wp2
        exact ⟨⟨5, by omega, rfl, unhide V⟩, by decide⟩
    · simp only [show ((5 : Nat) : Int) = 5 from rfl]
      go_wp2
      go_ret2
      exact ⟨by rw [unhide HV]; rfl, unhide B⟩
end Go.Proofs.YtocaljbimhjmgaaGreatDoor

namespace Go.Proofs.YtocaljbimhjmgaaGreatDoor.Plain
open Go.RowKit
set_option linter.unusedVariables false

def openB (t : List UInt8) : Bool := Lib.hasPrefix t [40]
def restF (t : List UInt8) : List UInt8 := Lib.trimPrefix t [40]
def shutB (t : List UInt8) : Bool := Lib.hasSuffix (restF t) [41]
def innerF (t : List UInt8) : List UInt8 := Lib.trimSuffix (restF t) [41]
theorem suffix_snoc (r : List UInt8) (b : UInt8) : Lib.hasSuffix (r ++ [b]) [41] = (b == 41) := by
  rw [← Lib.hasSuffix_of_drop]
  simp
theorem signs (t : List UInt8) : shutF t = (openB t && shutB t) ∧ (shutF t = true → innerF t = inner t) := by
  cases t with
  | nil => exact ⟨rfl, fun h => by cases h⟩
  | cons a r =>
    have e0 : openB (a :: r) = (a == 40) := by
      unfold openB Lib.hasPrefix
      rw [show List.isPrefixOf [40] (a :: r) = ((40 : UInt8) == a && List.isPrefixOf [] r) from rfl, List.isPrefixOf_nil_left, Bool.and_true]
      exact BEq.comm
    by_cases ha : a = 40
    · subst ha
      have e1 : restF (40 :: r) = r := by
        unfold restF Lib.trimPrefix
        rw [if_pos (by rw [show Lib.hasPrefix (40 :: r) [40] = openB (40 :: r) from rfl, e0]; rfl)]
        rfl
      have e2 : shutB (40 :: r) = Lib.hasSuffix r [41] := by unfold shutB; rw [e1]
      have e3 : innerF (40 :: r) = Lib.trimSuffix r [41] := by unfold innerF; rw [e1]
      rw [e0, e2, e3]
      rcases List.eq_nil_or_concat r with rfl | ⟨q, b, rfl⟩
      · exact ⟨by decide, fun h => by revert h; decide⟩
      · rw [List.concat_eq_append, suffix_snoc]
        have hl : (40 :: (q ++ [b])).length = q.length + 2 := by simp
        have e4 : shutF (40 :: (q ++ [b])) = (b == 41) := by
          unfold shutF
          rw [hl, decide_eq_true (by omega)]
          simp
        refine ⟨by rw [e4]; rfl, fun h => ?_⟩
        rw [e4] at h
        unfold Lib.trimSuffix inner
        rw [suffix_snoc, if_pos h, hl]
        simp
    · have e1 : (a == 40) = false := by simpa using ha
      have e4 : shutF (a :: r) = false := by
        unfold shutF
        simp [ha]
      rw [e0, e1, e4]
      exact ⟨by simp, fun h => by cases h⟩
theorem read_out {t : List UInt8} (h : (openB t && shutB t) = false) : readF t = (0, false) := readF_no (by rw [(signs t).1]; exact h)
theorem read_in {t : List UInt8} (h1 : openB t = true) (h2 : shutB t = true) : readF t = ansF (wordsF ((innerF t).map lowB)) := by
  have h : shutF t = true := by rw [(signs t).1, h1, h2]; rfl
  rw [readF_in h, (signs t).2 h]
theorem low_blank (b : UInt8) : lowB b = 32 ↔ b = 32 := by
  constructor
  · intro h
    by_cases hb : 65 ≤ b.toNat ∧ b.toNat ≤ 90
    · rw [lowB_in hb.1 hb.2] at h
      have := congrArg UInt8.toNat h
      rw [UInt8.toNat_ofNat'] at this
      simp at this
      omega
    · rw [lowB_no hb] at h; exact h
  · rintro rfl; decide
theorem cuts_low (l : List UInt8) : cutsL 32 (l.map lowB) = (cutsL 32 l).map (fun p => p.map lowB) := by
  induction l with
  | nil => rfl
  | cons b r ih =>
    rw [List.map_cons, cutsL, cutsL, ih]
    by_cases hb : b = 32
    · rw [if_pos ((low_blank b).2 hb), if_pos hb]; rfl
    · rw [if_neg (fun h => hb ((low_blank b).1 h)), if_neg hb]
      cases cutsL 32 r with
      | nil => rfl
      | cons p q => rfl
/-- What words tell, as they stand in the text. -/
def lowW (ps : List (List UInt8)) : List (List UInt8) := ps.map fun p => p.map lowB
theorem lowW_snoc (ps : List (List UInt8)) (p : List UInt8) : lowW (ps ++ [p]) = lowW ps ++ [p.map lowB] := by simp [lowW]
theorem words_of {l : List UInt8} (h : l ≠ []) : wordsF (l.map lowB) = foldF (some 0) (lowW (cutsL 32 l)) := by
  rw [words_in (by simpa using h), cuts_low]; rfl
theorem fold_pre {a b : List (List UInt8)} (h : a <+: b) (ha : foldF (some 0) (lowW a) = none) : foldF (some 0) (lowW b) = none := by
  obtain ⟨c, rfl⟩ := h
  unfold lowW at ha ⊢
  rw [List.map_append, foldF_append, ha, foldF_none]
def numW (ps : List (List UInt8)) : Int := (foldF (some 0) (lowW ps)).getD 0
theorem addI : ∀ (a : Fin 32) (k : Fin 5), ¬ (a.val : Int) / 2 ^ k.val % 2 = 1 → (a.val : Int) + 2 ^ k.val - andTo a.val (2 ^ k.val) 5 = a.val + 2 ^ k.val := by decide +kernel
end Go.Proofs.YtocaljbimhjmgaaGreatDoor.Plain

namespace Go.Proofs.YtocaljbimhjmgaaGreatDoor
open Go.RowKit Go.Shelf
open Plain
set_option linter.unusedVariables false

attribute [local go_sem] Oper.semAt_some

/-- What a round is handed: a part of the text. -/
abbrev PtD := { x : ByteArray // x.size ≤ 1048576 }
def ptOfD (x : PtD) : List UInt8 := x.1.data.toList
abbrev ptEncD (x : PtD) : Array Value := #[.string x.1]

/-- What a round keeps: all that lay ahead, and the iterator's three boxes. -/
def KpSD (n₀ B : Nat) (W W' : World) : Prop := Below n₀ W W' ∧ ∀ k, B ≤ k → k < B + 3 → W'.heap[k]? = W.heap[k]?
theorem KpSD.t {n₀ B : Nat} {X Y Z : World} (h : KpSD n₀ B X Y) (k : KpSD n₀ B Y Z) : KpSD n₀ B X Z := ⟨h.1.trans k.1, fun i h1 h2 => (k.2 i h1 h2).trans (h.2 i h1 h2)⟩
theorem KpSD.b {n₀ B : Nat} {w : World} (hn : n₀ ≤ w.heap.size) (hB : B + 3 ≤ w.heap.size) (W : World) (l : Nat) (o o' : Obj) (hl : w.heap.size ≤ l) (h : W.heap[l]? = some o) (ho : o.isCells = false) (hw : o.isWalk = false) : KpSD n₀ B W (W.putObj l o') :=
  ⟨belowK_b hn W l o o' hl h ho hw, fun k h1 h2 => World.putObj_heap_other (by omega)⟩

/-- The three boxes: what is left of the text, the byte, none of it kept. -/
def SpBoxD (c : UInt8) (B : Nat) (W : World) (s : ByteArray) : Prop := Boxed W B 9 (.string s) ∧ Boxed W (B + 1) 9 (.string ⟨#[c]⟩) ∧ Boxed W (B + 2) 3 (.int .i64 0)
theorem SpBoxD.keep {c : UInt8} {B : Nat} {W W' : World} {s : ByteArray} (h : SpBoxD c B W s) (hk : ∀ k, B ≤ k → k < B + 3 → W'.heap[k]? = W.heap[k]?) : SpBoxD c B W' s :=
  ⟨(hk B (by omega) (by omega)).trans h.1, (hk (B + 1) (by omega) (by omega)).trans h.2.1, (hk (B + 2) (by omega) (by omega)).trans h.2.2⟩
theorem SpBoxD.moved {c : UInt8} {B : Nat} {W : World} {s t : ByteArray} (h : SpBoxD c B W s) : SpBoxD c B (W.setCell ⟨B, 0, none⟩ (.string t)) t := by
  refine ⟨?_, h.2.1.other (by omega) _, h.2.2.other (by omega) _⟩
  have h1 : W.heap[B]? = some (.cells #[.string s] 9 (0, 0)) := h.1
  show (W.setCell ⟨B, 0, none⟩ (.string t)).heap[B]? = some (.cells #[.string t] 9 (0, 0))
  simp [World.setCell, h1, Array.getElem?_modify]
def leftVD (v : Value) : Nat := match v with
  | .string s => s.size + 1
  | _ => 0
def leftSD (B : Nat) (W : World) : Nat := match W.cell? ⟨B, 0, none⟩ with
  | some v => leftVD v
  | none => 0
theorem SpBoxD.left {c : UInt8} {B : Nat} {W : World} {s : ByteArray} (h : SpBoxD c B W s) : leftSD B W = s.size + 1 := by
  unfold leftSD
  rw [h.1.cell]
  rfl
namespace Plain
theorem extract_to (s : ByteArray) (i : Nat) : (s.extract 0 i).data.toList = s.data.toList.take i := by simp
theorem extract_from (s : ByteArray) (i : Nat) : (s.extract i s.size).data.toList = s.data.toList.drop i := by
  rw [ByteArray.data_extract, Array.toList_extract]
  show (s.data.toList.drop i).take (s.data.size - i) = _
  rw [List.take_of_length_le (by simp)]
theorem cuts_posD (c : UInt8) (l : List UInt8) : 1 ≤ (cutsL c l).length := by
  cases l with
  | nil => simp [cutsL]
  | cons b r =>
    rw [cutsL]
    split
    · simp
    · split <;> simp
theorem no_commaD {l : List UInt8} {c : UInt8} (h : ∀ k : Nat, l[k]? ≠ some c) : ∀ b ∈ l, b ≠ c := by
  intro b hb e
  obtain ⟨k, hk, rfl⟩ := List.getElem_of_mem hb
  exact h k (by rw [List.getElem?_eq_getElem hk, e])
theorem no_comma_toD {l : List UInt8} {c : UInt8} {i : Nat} (h : ∀ k, k < i → l[k]? ≠ some c) : ∀ b ∈ l.take i, b ≠ c := by
  intro b hb e
  obtain ⟨k, hk, rfl⟩ := List.getElem_of_mem hb
  have hk2 : k < i := by have := hk; simp at this; omega
  have hk3 : k < l.length := by have := hk; simp at this; omega
  refine h k hk2 ?_
  rw [List.getElem_take] at e
  rw [List.getElem?_eq_getElem hk3, e]
theorem cuts_hereD {l : List UInt8} {c : UInt8} {i : Nat} (h1 : ∀ k, k < i → l[k]? ≠ some c) (h2 : l[i]? = some c) : cutsL c l = l.take i :: cutsL c (l.drop (i + 1)) := by
  have hi : i < l.length := (List.getElem?_eq_some_iff.1 h2).1
  have e : l = l.take i ++ c :: l.drop (i + 1) := by
    have h3 : l[i] = c := (List.getElem?_eq_some_iff.1 h2).2
    rw [← h3, List.getElem_cons_drop hi, List.take_append_drop]
  have := cuts_at (c := c) (l.take i) (l.drop (i + 1)) (no_comma_toD h1)
  rw [← e] at this
  exact this
end Plain

set_option maxRecDepth 100000 in
set_option maxHeartbeats 4000000 in
theorem split1_inD (c : UInt8) (n : Nat) (hn : 1 ≤ n) (l B n₀ : Nat) (t : ByteArray) (ht : t.size ≤ 1048576) (J Jx : List PtD → World → Prop) (W : World)
    (hSt : ∀ s A v, J s A → J s (A.setCell ⟨B, 0, none⟩ v))
    (hY : ∀ pre x W1, J pre W1 → pre.length < (cutsL c t.data.toList).length → YieldAt Fence.wide (n - 1) Tryz.prog l (ptEncD x) W1 fun e W' =>
      (e = .returned (.bool true) ∧ J (pre ++ [x]) W' ∧ KpSD n₀ B W1 W') ∨ (e = .returned (.bool false) ∧ Jx (pre ++ [x]) W'))
    (hB : SpBoxD c B W t) (h0 : J [] W) :
    CallsIn Fence.wide n Tryz.prog 97 #[.func (.yield l) #[] #[], .pointer (some ⟨B + 1, 0, none⟩), .pointer (some ⟨B, 0, none⟩), .pointer (some ⟨B + 2, 0, none⟩)] W fun e W' => (∃ v, e = .returned v) ∧
      ((∃ ys, ys.map ptOfD = cutsL c t.data.toList ∧ J ys W') ∨ (∃ pre, (pre.map ptOfD <+: cutsL c t.data.toList) ∧ Jx pre W')) := by
  have HY := hide hY
  have HS := hide hSt
  have c1 := hB.2.1.cell
  have HB := hide hB
  have H0 := hide h0
  clear hY hSt hB h0
  refine callsIn_of_wp Tryz.func97 rfl trivial ?_ rfl
  simp only [Tryz.ntmps97, List.size_toArray, List.length_cons, List.length_nil, Nat.reduceAdd, Nat.reduceSub, Array.replicate_succ, Array.replicate_zero, List.push_toArray, List.append_toArray, List.nil_append, List.cons_append]
  gi_wp2
  gi_loopw [7] (fun _ wr => ∃ (pre : List PtD) (s : ByteArray), s.size ≤ t.size ∧ pre.map ptOfD ++ cutsL c s.data.toList = cutsL c t.data.toList ∧ SpBoxD c B wr s ∧ J pre wr)
    (fun _ wr => leftSD B wr)
  case atStart => exact ⟨[], t, Nat.le_refl _, rfl, unhide HB, unhide H0⟩
  case round =>
    obtain ⟨pre, s, hsz, hcut, hbx, hj⟩ := hrel
    clear c1
    have c0 := hbx.1.cell
    have c1 := hbx.2.1.cell
    have c2 := hbx.2.2.cell
    have z0 := hbx.1.frozen
    have hlen : pre.length < (cutsL c t.data.toList).length := by
      have := congrArg List.length hcut
      have h2 := cuts_posD c s.data.toList
      simp at this
      omega
    have IX := hide (fun W => Tryz.strings_Index_one s c W)
    have hge := Lib.indexByte_ge s.data.toList c
    have LM := hide hbx.left
    by_cases h : Lib.indexByte s.data.toList c = -1
    · have CO := hide (cuts_one (c := c) s.data.toList (no_commaD (fun k => Lib.indexByte_none h k)))
      obtain ⟨fn, tmps, assign, body, hy, hR⟩ := unhide HY pre ⟨s, by omega⟩ wr hj hlen
      dsimp only [ptEncD] at hy
      have HR := hide hR
      have HC := hide hcut
      rw [h] at IX
      clear h hge hR hcut hj hbx
      gi_wp2_with (refine ⟨trivial, ?_⟩; gi_at_call 99; refine (callsIn_wide.2 (unhide IX _)).mono ?_; rintro e w1 ⟨rfl, hw⟩; subst w1)
      refine (unhide HR).mono ?_
      rintro e' W3 (⟨rfl, hJ3, hk3⟩ | ⟨rfl, hJx3⟩)
      · have JJ := hide hJ3
        clear hJ3 hk3
        gi_wp2
        go_end0
        refine ⟨⟨_, rfl⟩, .inl ⟨_, ?_, unhide JJ⟩⟩
        rw [List.map_append, ← unhide HC, unhide CO]
        rfl
      · have JJ := hide hJx3
        clear hJx3
        gi_wp2
        go_end0
        refine ⟨⟨_, rfl⟩, .inr ⟨_, ?_, unhide JJ⟩⟩
        rw [List.map_append, ← unhide HC, unhide CO]
        exact List.prefix_refl _
    · obtain ⟨o, ho⟩ : ∃ o : Nat, Lib.indexByte s.data.toList c = o := ⟨(Lib.indexByte s.data.toList c).toNat, by omega⟩
      have SM := Lib.indexByte_some ho
      have hlt : o < s.size := (List.getElem?_eq_some_iff.1 SM.1).1
      have CH := hide (cuts_hereD SM.2 SM.1)
      obtain ⟨fn, tmps, assign, body, hy, hR⟩ := unhide HY pre ⟨s.extract 0 o, by simp; omega⟩ wr hj hlen
      dsimp only [ptEncD] at hy
      have HR := hide hR
      have HC := hide hcut
      have HX := hide hbx
      rw [ho] at IX
      have i1 : (0 : Int) ≤ (o : Int) := by omega
      have i2 : (o : Int) ≤ (s.size : Int) := by omega
      have i3 : IntKind.i64.wrap ((o : Int) + 1) = (o : Int) + 1 := by rw [IntKind.wrap_i64]; omega
      have i4 : (0 : Int) ≤ (o : Int) + 1 := by omega
      have i5 : (o : Int) + 1 ≤ (s.size : Int) := by omega
      clear h hge ho SM hR hcut hj hbx
      gi_wp2_with (refine ⟨trivial, ?_⟩; gi_at_call 99; refine (callsIn_wide.2 (unhide IX _)).mono ?_; rintro e w1 ⟨rfl, hw⟩; subst w1)
      refine (unhide HR).mono ?_
      rintro e' W3 (⟨rfl, hJ3, hk3⟩ | ⟨rfl, hJx3⟩)
      · have hb3 := (unhide HX).keep hk3.2
        have d0 := hb3.1.cell
        have d1 := hb3.2.1.cell
        have d2 := hb3.1.frozen
        have J4 := hide (unhide HS _ W3 (.string (s.extract (o + 1) s.size)) hJ3)
        have B4 := hide (hb3.moved (t := s.extract (o + 1) s.size))
        clear hJ3 hk3 hb3 HR HX hy
        gi_wp2
        go_roundw
        case rel =>
          refine ⟨_, _, ?_, ?_, unhide B4, unhide J4⟩
          · simp; omega
          · rw [← unhide HC, unhide CH, List.map_append, List.append_assoc, extract_from]
            show _ ++ ([ptOfD _] ++ _) = _
            unfold ptOfD
            simp only
            rw [extract_to]
            rfl
        case measure =>
          show leftSD B (W3.setCell ⟨B, 0, none⟩ (.string (s.extract (o + 1) s.size))) < leftSD B wr
          rw [(unhide B4).left, unhide LM]
          simp
          omega
      · have JJ := hide hJx3
        clear hJx3
        gi_wp2
        refine bodyPost_ret (results_none rfl _ _ _) rfl ?_
        refine ⟨⟨_, rfl⟩, .inr ⟨_, ?_, unhide JJ⟩⟩
        rw [← unhide HC, unhide CH, List.map_append]
        refine ⟨cutsL c (s.data.toList.drop (o + 1)), ?_⟩
        rw [List.append_assoc]
        show _ ++ ([ptOfD _] ++ _) = _
        unfold ptOfD
        simp only
        rw [extract_to]
        rfl

theorem split_movesD (c : UInt8) (n : Nat) (hn : 1 ≤ n) (B n₀ : Nat) (t : ByteArray) (ht : t.size ≤ 1048576) (w : World) (hB : SpBoxD c B w t) (hlt : B + 3 ≤ w.heap.size) :
    SeqMoves n Tryz.prog 97 #[.pointer (some ⟨B + 1, 0, none⟩), .pointer (some ⟨B, 0, none⟩), .pointer (some ⟨B + 2, 0, none⟩)] ptEncD B (KpSD n₀ B) (fun ys => ys.map ptOfD = cutsL c t.data.toList) (fun pre => pre.map ptOfD <+: cutsL c t.data.toList) (cutsL c t.data.toList).length w := fun l J Jx W hW hJ hSt hY h0 =>
  split1_inD c n hn l B n₀ t ht J Jx W hSt hY (hB.keep (fun k h1 h2 => hW.block k (by omega))) h0

set_option maxHeartbeats 1000000 in
theorem splitSeq_inD (c : UInt8) (n : Nat) (s : ByteArray) (w : World) :
    CallsIn Fence.wide n Tryz.prog 87 #[.string s, .string ⟨#[c]⟩, .int .i64 0] w fun e w' => e = .returned (.func (.func 97) #[] #[.pointer (some ⟨w.heap.size + 1, 0, none⟩), .pointer (some ⟨w.heap.size, 0, none⟩), .pointer (some ⟨w.heap.size + 2, 0, none⟩)]) ∧ SpBoxD c w.heap.size w' s ∧ w'.heap.size = w.heap.size + 3 ∧ Below w.heap.size w w' ∧ KeepsOthers w w' := by
  refine callsIn_of_wp Tryz.func87 rfl trivial ?_ rfl
  simp only [Tryz.ntmps87, List.size_toArray, List.length_cons, List.length_nil, Nat.reduceAdd, Nat.reduceSub, Array.replicate_succ, Array.replicate_zero, List.push_toArray, List.append_toArray, List.nil_append, List.cons_append]
  gi_wp2
  go_ret
  have n0 := Boxed.new w 9 (.string s)
  have n1 := Boxed.new (w.alloc (.cells #[.string s] 9)) 9 (.string ⟨#[c]⟩)
  have n2 := Boxed.new ((w.alloc (.cells #[.string s] 9)).alloc (.cells #[.string ⟨#[c]⟩] 9)) 3 (.int .i64 0)
  rw [World.size_alloc] at n1
  rw [World.size_alloc, World.size_alloc] at n2
  refine ⟨rfl, ⟨(n0.alloc _).alloc _, n1.alloc _, n2⟩, by simp, (((Below.refl _ _).alloc (Nat.le_refl _) _).alloc (by simp) _).alloc (by simp; omega) _, ((KeepsOthers.alloc _ _).trans (KeepsOthers.alloc _ _)).trans (KeepsOthers.alloc _ _)⟩

set_option maxHeartbeats 1000000 in
theorem SplitSeq_inD (c : UInt8) (n : Nat) (s : ByteArray) (w : World) :
    CallsIn Fence.wide n Tryz.prog 76 #[.string s, .string ⟨#[c]⟩] w fun e w' => e = .returned (.func (.func 97) #[] #[.pointer (some ⟨w.heap.size + 1, 0, none⟩), .pointer (some ⟨w.heap.size, 0, none⟩), .pointer (some ⟨w.heap.size + 2, 0, none⟩)]) ∧ SpBoxD c w.heap.size w' s ∧ w'.heap.size = w.heap.size + 3 ∧ Below w.heap.size w w' ∧ KeepsOthers w w' := by
  refine callsIn_of_wp Tryz.func76 rfl trivial ?_ rfl
  simp only [Tryz.ntmps76, List.size_toArray, List.length_cons, List.length_nil, Nat.reduceAdd, Nat.reduceSub, Array.replicate_succ, Array.replicate_zero, List.push_toArray, List.append_toArray, List.nil_append, List.cons_append]
  gi_wp2
  refine ⟨trivial, fun h => (by cases h), (splitSeq_inD c _ s _).mono ?_⟩
  rintro e w1 ⟨rfl, h1, h2, h3, h4⟩
  gi_wp2
  go_ret
  exact ⟨rfl, h1, h2, h3, h4⟩
end Go.Proofs.YtocaljbimhjmgaaGreatDoor

namespace Go.Proofs.YtocaljbimhjmgaaGreatDoor
open Go.RowKit Go.Shelf
open Plain
set_option linter.unusedVariables false

attribute [local go_sem] Oper.semAt_some

theorem keepsF_below {W W' : World} (h : Below W.heap.size W W') : KeepsOthers W W' :=
  ⟨h.size, fun k o hk _ => (h.block k (Array.getElem?_eq_some_iff.1 hk).1).trans hk⟩
theorem boxedF_below {W W' : World} {B : Nat} {t : TypeId} {v : Value} (h : Below W.heap.size W W') (b : Boxed W B t v) : Boxed W' B t v := (h.block B b.lt).trans b

theorem cutP_any (s : ByteArray) (w : World) : Calls Tryz.prog 74 #[.string s, .string ⟨#[40]⟩] w fun e w' => e = .returned (.tuple #[.string ⟨(restF s.data.toList).toArray⟩, .bool (openB s.data.toList)]) ∧ w' = w := Tryz.strings_CutPrefix s ⟨#[40]⟩ w
theorem cutS_any (s : ByteArray) (w : World) (hs : s.size ≤ 1048576) : Calls Tryz.prog 75 #[.string ⟨(restF s.data.toList).toArray⟩, .string ⟨#[41]⟩] w fun e w' => e = .returned (.tuple #[.string ⟨(innerF s.data.toList).toArray⟩, .bool (shutB s.data.toList)]) ∧ w' = w := by
  refine Tryz.strings_CutSuffix ⟨(restF s.data.toList).toArray⟩ ⟨#[41]⟩ w ?_
  show (restF s.data.toList).length ≤ _
  have : (restF s.data.toList).length ≤ s.data.toList.length := by
    unfold restF Lib.trimPrefix
    split
    · simp
    · exact Nat.le_refl _
  have h2 : s.data.toList.length = s.size := rfl
  omega
namespace Plain
theorem inner_len (l : List UInt8) : (innerF l).length ≤ l.length := by
  have h1 : (restF l).length ≤ l.length := by
    unfold restF Lib.trimPrefix
    split
    · simp
    · exact Nat.le_refl _
  unfold innerF Lib.trimSuffix
  split
  · simp; omega
  · exact h1
end Plain

set_option maxRecDepth 100000 in
set_option maxHeartbeats 2000000 in
theorem impl_ReadFlags_out (t : ByteArray) (w : World) (ht : t.size ≤ 1048576) (h : (openB t.data.toList && shutB t.data.toList) = false) :
    Calls Tryz.prog 66 #[.string t] w fun e w' => e = .returned (.tuple #[.int .i64 (readF t.data.toList).1, .bool (readF t.data.toList).2]) ∧ Below w.heap.size w w' := by
  have V := hide (read_out h)
  have Q1 := hide (cutP_any t)
  have Q2 := hide (fun W => cutS_any t W ht)
  generalize openB t.data.toList = ob at *
  generalize shutB t.data.toList = sb at *
  cases ob with
  | false =>
    clear h
    go_enter Tryz.func66, Tryz.ntmps66
    go_wp2_with (first | (go_at_call 74; refine (unhide Q1 _).mono ?_; rintro e w1 ⟨rfl, hw1⟩; subst w1) | (go_at_call 75; refine (unhide Q2 _).mono ?_; rintro e w1 ⟨rfl, hw1⟩; subst w1))
    refine bodyPost_ret (by simp [results, Tryz.results66, go_sem]; try rfl) rfl ?_
    exact ⟨by rw [unhide V], ((Below.refl _ _).alloc (Nat.le_refl _) _).alloc (by simp) _⟩
  | true =>
    have hsb : sb = false := by simpa using h
    subst hsb
    clear h
    go_enter Tryz.func66, Tryz.ntmps66
    go_wp2_with (first | (go_at_call 74; refine (unhide Q1 _).mono ?_; rintro e w1 ⟨rfl, hw1⟩; subst w1) | (go_at_call 75; refine (unhide Q2 _).mono ?_; rintro e w1 ⟨rfl, hw1⟩; subst w1))
    refine bodyPost_ret (by simp [results, Tryz.results66, go_sem]; try rfl) rfl ?_
    exact ⟨by rw [unhide V], ((Below.refl _ _).alloc (Nat.le_refl _) _).alloc (by simp) _⟩
set_option maxRecDepth 100000 in
set_option maxHeartbeats 2000000 in
theorem impl_ReadFlags_none (t : ByteArray) (w : World) (ht : t.size ≤ 1048576) (h1 : openB t.data.toList = true) (h2 : shutB t.data.toList = true) (h3 : innerF t.data.toList = []) :
    Calls Tryz.prog 66 #[.string t] w fun e w' => e = .returned (.tuple #[.int .i64 (readF t.data.toList).1, .bool (readF t.data.toList).2]) ∧ Below w.heap.size w w' := by
  have V := hide (read_in h1 h2)
  have Q1 := hide (cutP_any t)
  have Q2 := hide (fun W => cutS_any t W ht)
  rw [h1] at Q1
  rw [h2, h3] at Q2
  rw [h3] at V
  clear h1 h2 h3
  go_enter Tryz.func66, Tryz.ntmps66
  go_wp2_with (first | (go_at_call 74; refine (unhide Q1 _).mono ?_; rintro e w1 ⟨rfl, hw1⟩; subst w1) | (go_at_call 75; refine (unhide Q2 _).mono ?_; rintro e w1 ⟨rfl, hw1⟩; subst w1))
  refine bodyPost_ret (by simp [results, Tryz.results66, go_sem]; try rfl) rfl ?_
  exact ⟨by rw [unhide V]; rfl, ((Below.refl _ _).alloc (Nat.le_refl _) _).alloc (by simp) _⟩

/-- What the loop holds on to. -/
def wordsP (pre : List PtD) : List (List UInt8) := pre.map ptOfD
def InvF (w : World) (pre : List PtD) (W : World) : Prop :=
  Boxed W (w.heap.size + 2) 114 (.int .i64 (numW (wordsP pre))) ∧ (Boxed W w.heap.size 3 (.int .i64 0) ∧ Boxed W (w.heap.size + 1) 4 (.bool false)) ∧ foldF (some 0) (lowW (wordsP pre)) = some (numW (wordsP pre)) ∧ Below w.heap.size w W ∧ w.heap.size + 6 ≤ W.heap.size
def InvG (w : World) (pre : List PtD) (W : World) : Prop :=
  (Boxed W w.heap.size 3 (.int .i64 0) ∧ Boxed W (w.heap.size + 1) 4 (.bool false)) ∧ foldF (some 0) (lowW (wordsP pre)) = none ∧ Below w.heap.size w W
theorem InvF.own (w : World) (B : Nat) (hB : w.heap.size ≤ B) : OwnFrom B (InvF w) :=
  OwnFrom.and (Own.from (boxed_own (w.heap.size + 2) 114 (fun (pre : List PtD) => .int .i64 (numW (wordsP pre)))) _)
    (OwnFrom.and (OwnFrom.and (Own.from (boxed_own w.heap.size 3 (fun _ => .int .i64 0)) _) (Own.from (boxed_own (w.heap.size + 1) 4 (fun _ => .bool false)) _))
      (OwnFrom.and (ownFrom_pure _ (fun (pre : List PtD) => foldF (some 0) (lowW (wordsP pre)) = some (numW (wordsP pre)))) (OwnFrom.and (ownFrom_below (Nat.le_refl _) hB) (fun _ _ _ _ hs hg _ => Nat.le_trans hs hg.size))))
theorem InvG.own (w : World) (B : Nat) (hB : w.heap.size ≤ B) : OwnFrom B (InvG w) :=
  OwnFrom.and (OwnFrom.and (Own.from (boxed_own w.heap.size 3 (fun _ => .int .i64 0)) _) (Own.from (boxed_own (w.heap.size + 1) 4 (fun _ => .bool false)) _))
    (OwnFrom.and (ownFrom_pure _ (fun (pre : List PtD) => foldF (some 0) (lowW (wordsP pre)) = none)) (ownFrom_below (Nat.le_refl _) hB))
theorem InvF.moved (w : World) (s : List PtD) (A : World) (v : Value) (h : InvF w s A) : InvF w s (A.setCell ⟨w.heap.size + 3, 0, none⟩ v) := by
  obtain ⟨h1, ⟨h2, h3⟩, h4, h5, h6⟩ := h
  exact ⟨h1.other (by omega) _, ⟨h2.other (by omega) _, h3.other (by omega) _⟩, h4, h5.setCell (p := ⟨w.heap.size + 3, 0, none⟩) (by show w.heap.size ≤ w.heap.size + 3; omega) v, by simpa using h6⟩
namespace Plain
theorem bit_pow (p : List UInt8) : bitV p = 0 ∨ ∃ k : Nat, k < 5 ∧ bitV p = 2 ^ k := by
  rcases bitV_is p with h | h | h | h | h | h
  · exact .inl h
  · exact .inr ⟨0, by decide, h⟩
  · exact .inr ⟨1, by decide, h⟩
  · exact .inr ⟨2, by decide, h⟩
  · exact .inr ⟨3, by decide, h⟩
  · exact .inr ⟨4, by decide, h⟩
theorem step_no0 {n : Int} {p : List UInt8} (h : bitV p = 0) : stepF n p = none := if_pos (.inl h)
theorem step_twice {n : Int} {p : List UInt8} (h : n / bitV p % 2 = 1) : stepF n p = none := if_pos (.inr h)
theorem step_on {n : Int} {p : List UInt8} (h0 : bitV p ≠ 0) (h : ¬ n / bitV p % 2 = 1) : stepF n p = some (n + bitV p) := if_neg (fun x => x.elim h0 h)
theorem add_is {a : Int} (h0 : 0 ≤ a) (h1 : a ≤ 31) {k : Nat} (hk : k < 5) (h : ¬ a / 2 ^ k % 2 = 1) : a + 2 ^ k - andTo a (2 ^ k) 5 = a + 2 ^ k := by
  obtain ⟨x, rfl⟩ := fin_of h0 h1
  exact addI x ⟨k, hk⟩ h
theorem pow_range {k : Nat} (hk : k < 5) : (0 : Int) ≤ 2 ^ k ∧ (2 ^ k : Int) ≤ 31 ∧ (2 ^ k : Int) ≠ 0 := by
  rcases (show k = 0 ∨ k = 1 ∨ k = 2 ∨ k = 3 ∨ k = 4 by omega) with rfl | rfl | rfl | rfl | rfl <;> decide
theorem num_of {ps : List (List UInt8)} {n : Int} (h : foldF (some 0) (lowW ps) = some n) : numW ps = n := by unfold numW; rw [h]; rfl
end Plain

set_option maxRecDepth 100000 in
set_option maxHeartbeats 2000000 in
theorem impl_ReadFlags_in (t : ByteArray) (w : World) (ht : t.size ≤ 1048576) (h1 : openB t.data.toList = true) (h2 : shutB t.data.toList = true) (h3 : innerF t.data.toList ≠ []) (hN : Named w) :
    Calls Tryz.prog 66 #[.string t] w fun e w' => e = .returned (.tuple #[.int .i64 (readF t.data.toList).1, .bool (readF t.data.toList).2]) ∧ Below w.heap.size w w' := by
  have V := hide (read_in h1 h2)
  have Q1 := hide (cutP_any t)
  have Q2 := hide (fun W => cutS_any t W ht)
  rw [h1] at Q1
  rw [h2] at Q2
  have IL : Hid ((innerF t.data.toList).length ≤ 1048576) := Nat.le_trans (inner_len _) ht
  generalize innerF t.data.toList = L at *
  have tE : L.isEmpty = false := by simpa using h3
  have tE2 : (⟨L.toArray⟩ : ByteArray).toList.isEmpty = false := by rw [ByteArray.toList_eq]; simpa using h3
  refine (callsIn_wide (n := 6)).1 ?_
  refine callsIn_of_wp_marks Tryz.func66 rfl trivial ?_ rfl
  simp only [Tryz.ntmps66, List.size_toArray, List.length_cons, List.length_nil, Nat.reduceAdd, Nat.reduceSub, Array.replicate_succ, Array.replicate_zero, List.push_toArray, List.append_toArray, List.nil_append, List.cons_append]
  gi_wp2_with (refine ⟨trivial, ?_⟩; gi_at_call 74; refine (callsIn_wide.2 (unhide Q1 _)).mono ?_; rintro e w1 ⟨rfl, hw1⟩; subst w1)
  gi_wp2_with (refine ⟨trivial, ?_⟩; gi_at_call 75; refine (callsIn_wide.2 (unhide Q2 _)).mono ?_; rintro e w1 ⟨rfl, hw1⟩; subst w1)
  gi_wp2_with (refine ⟨trivial, ?_⟩; gi_at_call 76; refine (SplitSeq_inD 32 _ ⟨L.toArray⟩ _).mono ?_; rintro e w1 ⟨rfl, q1, q2, q3, q4⟩)
  have tS : (⟨L.toArray⟩ : ByteArray).size ≤ 1048576 := unhide IL
  have b0 := Boxed.new w 3 (.int .i64 0)
  have b1 := Boxed.new (w.alloc (.cells #[.int .i64 0] 3)) 4 (.bool false)
  have b2 := Boxed.new ((w.alloc (.cells #[.int .i64 0] 3)).alloc (.cells #[.bool false] 4)) 114 (.int .i64 0)
  rw [World.size_alloc] at b1
  rw [World.size_alloc, World.size_alloc] at b2
  obtain ⟨WA, hWA⟩ : ∃ WA, WA = ((w.alloc (.cells #[.int .i64 0] 3)).alloc (.cells #[.bool false] 4)).alloc (.cells #[.int .i64 0] 114) := ⟨_, rfl⟩
  have d0 : Boxed WA w.heap.size 3 (.int .i64 0) := by rw [hWA]; exact (b0.alloc _).alloc _
  have d1 : Boxed WA (w.heap.size + 1) 4 (.bool false) := by rw [hWA]; exact b1.alloc _
  have d2 : Boxed WA (w.heap.size + 2) 114 (.int .i64 0) := by rw [hWA]; exact b2
  have hbA : Below w.heap.size w WA := by rw [hWA]; exact (((Below.refl _ w).alloc (Nat.le_refl _) _).alloc (by simp) _).alloc (by simp; omega) _
  have hsA : WA.heap.size = w.heap.size + 3 := by rw [hWA]; simp
  rw [← hWA] at q1 q2 q3 q4
  clear b0 b1 b2 hWA
  have hs1 : w1.heap.size = w.heap.size + 6 := by omega
  have q1' : SpBoxD 32 (w.heap.size + 1 + 1 + 1) w1 ⟨L.toArray⟩ := by rw [hsA] at q1; exact q1
  have hB1 : Below w.heap.size w w1 := below2 hbA q3
  have k0 := boxedF_below q3 d0
  have k1 := boxedF_below q3 d1
  have k2 := boxedF_below q3 d2
  have HS1 := hide hs1
  have WO := hide (words_of h3)
  have HN := hide hN
  clear q1 q2 q3 q4 d0 d1 d2 hbA hsA h1 h2 h3 hN
  refine wpIn_range_moves (by omega) (gf := 97) (lb := #[.pointer (some ⟨w.heap.size + 1 + 1 + 1 + 1, 0, none⟩), .pointer (some ⟨w.heap.size + 1 + 1 + 1, 0, none⟩), .pointer (some ⟨w.heap.size + 1 + 1 + 1 + 2, 0, none⟩)]) rfl (enters_of Tryz.func97 (by kernel_rfl) rfl)
    (split_movesD 32 5 (by omega) (w.heap.size + 1 + 1 + 1) w.heap.size ⟨L.toArray⟩ tS w1 q1' (by omega)) KpSD.t (KpSD.b (by omega) (by omega)) (fun _ => rfl)
    (InvF w) (InvG w) (InvF.own w _ (by omega)) (InvG.own w _ (by omega)) (InvF.moved w) ⟨k2, ⟨k0, k1⟩, rfl, hB1, by omega⟩
    (fun x => { tmps := #[.string t, undef, .pointer (some ⟨w.heap.size, 0, none⟩), .pointer (some ⟨w.heap.size + 1, 0, none⟩), .string ⟨(restF t.data.toList).toArray⟩, .bool true, .string ⟨L.toArray⟩, .bool true, .pointer (some ⟨w.heap.size + 1 + 1, 0, none⟩), .string x.1, undef, undef, .tuple #[.string ⟨(restF t.data.toList).toArray⟩, .bool true], .string t, .tuple #[.string ⟨(restF t.data.toList).toArray⟩, .bool true], .string ⟨(restF t.data.toList).toArray⟩, .bool true, .tuple #[.string ⟨L.toArray⟩, .bool true], .string ⟨(restF t.data.toList).toArray⟩, .tuple #[.string ⟨L.toArray⟩, .bool true], .string ⟨L.toArray⟩, .bool true, .bool true, .bool false, .bool false, .bool true, .bool false, .bool false, .string ⟨L.toArray⟩, .bool false, .string ⟨L.toArray⟩, .func (.func 97) #[] #[.pointer (some ⟨w.heap.size + 1 + 1 + 1 + 1, 0, none⟩), .pointer (some ⟨w.heap.size + 1 + 1 + 1, 0, none⟩), .pointer (some ⟨w.heap.size + 1 + 1 + 1 + 2, 0, none⟩)], .string x.1, undef, undef, undef, undef, undef, undef, undef, undef, undef, undef, undef, undef, undef, undef, undef, undef, undef], defers := [] }) ?assign ?body ?done ?stop
  case assign =>
    intro l x W K hK
    gi_wp2
    exact hK
  case body =>
    rintro l pre x W ⟨hv, ⟨hR1, hR2⟩, hok, hB, hsz⟩ hlt
    have RS := hide (small_any x.1 W x.2)
    have RR := hide (fun W2 (hb : Below W.heap.size W W2) => flagNamed_any (x.1.data.toList.map lowB) W2 (((unhide HN).below hB).below hb))
    have SN := hide (foldF_snoc (x.1.data.toList.map lowB) hok)
    have LS : Hid (lowW (wordsP (pre ++ [x])) = lowW (wordsP pre) ++ [x.1.data.toList.map lowB]) := by
      show lowW (wordsP (pre ++ [x])) = _
      unfold wordsP
      rw [List.map_append]
      exact lowW_snoc _ _
    have RG := fold_range (lowW (wordsP pre)) 0 (numW (wordsP pre)) (by decide) (by decide) hok
    generalize hnn : numW (wordsP pre) = n at *
    have BP := bit_pow (x.1.data.toList.map lowB)
    have S0 := hide (fun h => step_no0 (n := n) (p := x.1.data.toList.map lowB) h)
    have S1 := hide (fun h => step_twice (n := n) (p := x.1.data.toList.map lowB) h)
    have S2 := hide (fun h0 h => step_on (n := n) (p := x.1.data.toList.map lowB) h0 h)
    generalize bitV (x.1.data.toList.map lowB) = bit at *
    obtain ⟨n0, n1⟩ := RG
    clear hok
    gi_wp2
    refine ⟨trivial, (CallsIn.inRound l (callsIn_wide.2 (unhide RS))).mono ?_⟩
    rintro e w3 ⟨rfl, hb3⟩
    gi_wp2
    refine ⟨trivial, (CallsIn.inRound l (callsIn_wide.2 (unhide RR w3 hb3))).mono ?_⟩
    rintro e w2 ⟨rfl, hb4⟩
    have hb2 := below2 hb3 hb4
    clear hb3 hb4 RS
    have hB2 : Below w.heap.size w w2 := hB.trans (hb2.mono hB.size)
    have e0 := boxedF_below hb2 hR1
    have e1 := boxedF_below hb2 hR2
    have e2 := boxedF_below hb2 hv
    have KO2 := keepsF_below hb2
    have hsz2 : w.heap.size + 6 ≤ w2.heap.size := Nat.le_trans hsz hb2.size
    have KB := hide hb2
    clear hR1 hR2 hv hb2 RR
    have f0 := e0.cell
    have f1 := e1.cell
    have f2 : w2.cell? ⟨w.heap.size + 1 + 1, 0, none⟩ = some (.int .i64 n) := e2.cell
    have g0 := e0.frozen
    have g1 := e1.frozen
    have g2 : w2.frozen? ⟨w.heap.size + 1 + 1, 0, none⟩ = false := e2.frozen
    rcases BP with hbit | ⟨k, hk, hbit⟩
    · have OX : Hid (foldF (some 0) (lowW (wordsP (pre ++ [x]))) = none) := by
        show foldF (some 0) (lowW (wordsP (pre ++ [x]))) = none
        rw [unhide LS, unhide SN, unhide S0 hbit]
      subst hbit
      gi_wp2_with (refine ⟨trivial, ?_⟩)
      have n01 : w.heap.size ≠ w.heap.size + 1 := by omega
      exact ⟨((KO2.trans (KeepsOthers.setCell _ _ _)).trans (KeepsOthers.setCell _ _ _)).from _, ⟨(e0.set (.int .i64 0)).other n01 _, (e1.other n01.symm _).set (.bool false)⟩, unhide OX, (hB2.setCell (p := ⟨w.heap.size, 0, none⟩) (Nat.le_refl _) _).setCell (p := ⟨w.heap.size + 1, 0, none⟩) (by show w.heap.size ≤ w.heap.size + 1; omega) _⟩
    · obtain ⟨p0, p1, p2⟩ := pow_range hk
      have HA := hide (has_any n k w2 n0 n1 hk)
      have WI := with_any n (2 ^ k) w2 n0 n1 p0 p1
      have tb : (bit == 0) = false := by rw [hbit]; simpa using p2
      by_cases hh : n / 2 ^ k % 2 = 1
      · have OX : Hid (foldF (some 0) (lowW (wordsP (pre ++ [x]))) = none) := by
          show foldF (some 0) (lowW (wordsP (pre ++ [x]))) = none
          rw [unhide LS, unhide SN, unhide S1 (by rw [hbit]; exact hh)]
        rw [show hasV n (2 ^ k) = true from decide_eq_true hh, ← hbit] at HA
        clear hh hbit WI p0 p1 p2
        gi_wp2
        refine ⟨trivial, (CallsIn.inRound l (callsIn_wide.2 (unhide HA))).mono ?_⟩
        rintro e w3 ⟨rfl, hw3⟩
        subst w3
        gi_wp2
        have n01 : w.heap.size ≠ w.heap.size + 1 := by omega
        exact ⟨((KO2.trans (KeepsOthers.setCell _ _ _)).trans (KeepsOthers.setCell _ _ _)).from _, ⟨(e0.set (.int .i64 0)).other n01 _, (e1.other n01.symm _).set (.bool false)⟩, unhide OX, (hB2.setCell (p := ⟨w.heap.size, 0, none⟩) (Nat.le_refl _) _).setCell (p := ⟨w.heap.size + 1, 0, none⟩) (by show w.heap.size ≤ w.heap.size + 1; omega) _⟩
      · have OX : Hid (foldF (some 0) (lowW (wordsP (pre ++ [x]))) = some (n + bit)) := by
          show foldF (some 0) (lowW (wordsP (pre ++ [x]))) = _
          rw [unhide LS, unhide SN, unhide S2 (by rw [hbit]; exact p2) (by rw [hbit]; exact hh)]
        rw [show hasV n (2 ^ k) = false from decide_eq_false hh, ← hbit] at HA
        rw [add_is n0 n1 hk hh, ← hbit] at WI
        have HW := hide WI
        clear hh hbit WI p0 p1 p2
        gi_wp2
        refine ⟨trivial, (CallsIn.inRound l (callsIn_wide.2 (unhide HA))).mono ?_⟩
        rintro e w3 ⟨rfl, hw3⟩
        subst w3
        gi_wp2
        refine ⟨trivial, (CallsIn.inRound l (callsIn_wide.2 (unhide HW))).mono ?_⟩
        rintro e w3 ⟨rfl, hw3⟩
        subst w3
        generalize n + bit = m at *
        have NW := hide (num_of (unhide OX))
        gi_wp2
        have n2 : w.heap.size ≠ w.heap.size + 2 := by omega
        have n3 : w.heap.size + 1 ≠ w.heap.size + 2 := by omega
        have E2 := e2.set (.int .i64 m)
        refine ⟨(KO2.trans (KeepsOthers.setCell _ _ _)).from _, ⟨((unhide KB).mono hB.size).setCell (p := ⟨w.heap.size + 2, 0, none⟩) (by show w.heap.size ≤ w.heap.size + 2; omega) _, fun k h1 h2 => ?_⟩, ?_, ⟨e0.other n2 _, e1.other n3 _⟩, ?_, hB2.setCell (p := ⟨w.heap.size + 2, 0, none⟩) (by show w.heap.size ≤ w.heap.size + 2; omega) _, ?_⟩
        · exact (Below.heap_setCell w2 ⟨w.heap.size + 2, 0, none⟩ (.int .i64 m) k (fun e => by have : k = w.heap.size + 2 := e; omega)).trans ((unhide KB).block k (by omega))
        · rw [unhide NW]; exact E2
        · rw [unhide NW]; exact unhide OX
        · simpa using hsz2
  case done =>
    rintro D ys W hD hS0 ⟨hv, ⟨hR1, hR2⟩, hok, hB, hsz⟩ hK
    have hDs : w.heap.size + 6 ≤ D := by have := unhide HS1; omega
    have FV : Hid (foldF (some 0) (lowW (cutsL 32 L)) = some (numW (wordsP ys))) := by
      show foldF (some 0) (lowW (cutsL 32 L)) = _
      rw [← hok, show wordsP ys = cutsL 32 L from hS0]
    clear hok hS0
    generalize numW (wordsP ys) = n at *
    have c0 := hR1.cell
    have c1 := hR2.cell
    have c2 : W.cell? ⟨w.heap.size + 1 + 1, 0, none⟩ = some (.int .i64 n) := hv.cell
    have z0 := hR1.frozen
    have z1 := hR2.frozen
    gi_wp2
    have n01 : w.heap.size ≠ w.heap.size + 1 := by omega
    have r0 := (hR1.set (.int .i64 n)).other n01 (.bool true)
    have r1 := (hR2.other n01.symm (.int .i64 n)).set (.bool true)
    have hK6 : ((W.setCell ⟨w.heap.size, 0, none⟩ (.int .i64 n)).setCell ⟨w.heap.size + 1, 0, none⟩ (.bool true)).heap[D]? = some (.deferred (some [])) := ((KeepsOthers.setCell _ _ _).trans (KeepsOthers.setCell _ _ _)).same D _ hK rfl
    have hB6 : Below w.heap.size w ((W.setCell ⟨w.heap.size, 0, none⟩ (.int .i64 n)).setCell ⟨w.heap.size + 1, 0, none⟩ (.bool true)) := (hB.setCell (p := ⟨w.heap.size, 0, none⟩) (Nat.le_refl _) _).setCell (p := ⟨w.heap.size + 1, 0, none⟩) (by show w.heap.size ≤ w.heap.size + 1; omega) _
    generalize (W.setCell ⟨w.heap.size, 0, none⟩ (.int .i64 n)).setCell ⟨w.heap.size + 1, 0, none⟩ (.bool true) = W6 at *
    refine ⟨by simp, .inl ⟨_, _, rfl, run_takeDeferred hK6, ?_⟩⟩
    have g1 := (r0.kept (grownBy_putObj' W6 D (.deferred none)) (by simp; omega)).cell
    have g2 := (r1.kept (grownBy_putObj' W6 D (.deferred none)) (by simp; omega)).cell
    refine ⟨_, by simp [results, Tryz.results66, go_sem, g1, g2]; try rfl, ?_, ?_⟩
    · rw [unhide V, unhide WO, unhide FV]; rfl
    · exact hB6.trans (belowK_b (w := w) (Nat.le_refl _) W6 D _ _ (by omega) hK6 rfl rfl)
  case stop =>
    rintro D pre W hD hSp ⟨⟨hR1, hR2⟩, hok, hB⟩ hK
    have NO := hide (fold_pre hSp hok)
    gi_wp2
    refine ⟨by simp, .inl ⟨_, _, rfl, run_takeDeferred hK, ?_⟩⟩
    have hDs : w.heap.size + 6 ≤ D := by have := unhide HS1; omega
    have g1 := (hR1.kept (grownBy_putObj' W D (.deferred none)) (by simp; omega)).cell
    have g2 := (hR2.kept (grownBy_putObj' W D (.deferred none)) (by simp; omega)).cell
    refine ⟨_, by simp [results, Tryz.results66, go_sem, g1, g2]; try rfl, ?_, ?_⟩
    · rw [unhide V, unhide WO, unhide NO]; rfl
    · exact hB.trans (belowK_b (w := w) (Nat.le_refl _) W D _ _ (by omega) hK rfl rfl)
theorem impl_ReadFlags_any (t : ByteArray) (w : World) (ht : t.size ≤ 1048576) (hN : Named w) :
    Calls Tryz.prog 66 #[.string t] w fun e w' => e = .returned (.tuple #[.int .i64 (readF t.data.toList).1, .bool (readF t.data.toList).2]) ∧ Below w.heap.size w w' := by
  cases h1 : openB t.data.toList with
  | false => exact impl_ReadFlags_out t w ht (by rw [h1]; rfl)
  | true =>
    cases h2 : shutB t.data.toList with
    | false => exact impl_ReadFlags_out t w ht (by rw [h1, h2]; rfl)
    | true =>
      by_cases h3 : innerF t.data.toList = []
      · exact impl_ReadFlags_none t w ht h1 h2 h3
      · exact impl_ReadFlags_in t w ht h1 h2 h3 hN
end Go.Proofs.YtocaljbimhjmgaaGreatDoor
