/- Mails: the program's valueIn: what a line tells, if it is a head of this name. -/
import Derived.Test.YtmkjocamknhcbaaDoorSubjectI
import Derived.Test.YtmkjocamknhcbaaDoorRunePlain
namespace Go.Proofs.YtmkjocamknhcbaaDoor
open Go.RowKit
open Plain
set_option linter.unusedVariables false

namespace Plain
/-- What a line tells of a name in small letters. -/
def lineV (h line : List UInt8) : List UInt8 × Bool :=
  if h.length < line.length ∧ (line.take h.length).map lowB = h ∧ line[h.length]? = some 58 then (trimL (line.drop (h.length + 1)), true) else ([], false)
theorem lineV_in {h line : List UInt8} (k : h.length < line.length ∧ (line.take h.length).map lowB = h ∧ line[h.length]? = some 58) : lineV h line = (trimL (line.drop (h.length + 1)), true) := if_pos k
theorem lineV_no {h line : List UInt8} (k : ¬ (h.length < line.length ∧ (line.take h.length).map lowB = h ∧ line[h.length]? = some 58)) : lineV h line = ([], false) := if_neg k
theorem first_val (name p : List UInt8) (r : List (List UInt8)) : firstIn name (p :: r) = if (lineV (name.map lowB) p).2 then lineV (name.map lowB) p else firstIn name r := by
  rw [firstIn]
  unfold lineV
  rw [List.length_map]
  split
  · simp
  · simp
theorem lineV_len (h line : List UInt8) : (lineV h line).1.length ≤ line.length := by
  unfold lineV
  split
  · have := trimL_len (line.drop (h.length + 1))
    rw [List.length_drop] at this
    show (trimL (line.drop (h.length + 1))).length ≤ _
    omega
  · simp
theorem byteAt {u : ByteArray} {n : Nat} (h : n < u.size) : u.data.toList[n]? = some u[n] := by
  rw [Array.getElem?_toList, Array.getElem?_eq_getElem h]
  rfl
end Plain

set_option maxHeartbeats 4000000 in
set_option maxRecDepth 100000 in
theorem valueIn_any (h u : ByteArray) (w : World) (hh : h.size ≤ 1048576) (hu : u.size ≤ 1048576) :
    Calls Tryd.prog 33 #[.string h, .string u] w fun e w' => e = .returned (.tuple #[.string ⟨(lineV h.data.toList u.data.toList).1.toArray⟩, .bool (lineV h.data.toList u.data.toList).2]) ∧ Below w.heap.size w w' := by
  have IN := hide (fun k => lineV_in (h := h.data.toList) (line := u.data.toList) k)
  have NO := hide (fun k => lineV_no (h := h.data.toList) (line := u.data.toList) k)
  have HL : Hid (h.data.toList.length = h.size) := rfl
  by_cases k1 : h.size < u.size
  · have c1 : decide ((u.size : Int) ≤ (h.size : Int)) = false := by rw [decide_eq_false_iff_not]; omega
    have c1' : decide (u.size ≤ h.size) = false := by rw [decide_eq_false_iff_not]; omega
    have hb := byteAt k1
    by_cases k3 : u[h.size].toNat = 58
    · have t3 : ((u[h.size].toNat : Int) != 58) = false := by rw [bne_eq_false_iff_eq]; omega
      have L1 := hide (small_any (u.extract 0 h.size) w (by rw [ByteArray.size_extract]; omega))
      rw [ext_head] at L1
      have i1 : (h.size : Int) ≤ (u.size : Int) := by omega
      by_cases k2 : (u.data.toList.take h.size).map lowB = h.data.toList
      · rw [k2] at L1
        have V := hide (unhide IN ⟨by rw [unhide HL]; exact k1, by rw [unhide HL]; exact k2, by rw [unhide HL, hb]; exact congrArg some (UInt8.toNat_inj.1 k3)⟩)
        have TQ := hide (fun W => blanks_any (u.extract (h.size + 1) u.size) W (by rw [ByteArray.size_extract]; omega))
        rw [ext_tail] at TQ
        have i2 : (h.size : Int) + 1 ≤ (u.size : Int) := by omega
        have i3 : IntKind.i64.wrap ((h.size : Int) + 1) = (h.size : Int) + 1 := by rw [IntKind.wrap_i64]; omega
        have E : (⟨h.data.toList.toArray⟩ : ByteArray) = h := rfl
        rw [E] at L1
        clear k2 hb k3 IN NO E
        go_enter Tryd.func33, Tryd.ntmps33
        go_wp2_with fail
        refine (unhide L1).mono ?_
        rintro e w2 ⟨rfl, hb2⟩
        have B2 := hide hb2
        clear hb2
        go_wp2_with fail
        refine (unhide TQ _).mono ?_
        rintro e w4 ⟨rfl, hb4⟩
        have B4 := hide ((unhide B2).trans (hb4.mono (unhide B2).size))
        clear hb4
        go_wp2
        go_ret2
        exact ⟨by rw [unhide V, unhide HL]; rfl, unhide B4⟩
      · have V := hide (unhide NO (fun k => k2 (by have := k.2.1; rwa [unhide HL] at this)))
        have TS : ((⟨((u.data.toList.take h.size).map lowB).toArray⟩ : ByteArray).toList == h.toList) = false := by
          rw [ByteArray.toList_eq, ByteArray.toList_eq, beq_eq_false_iff_ne]
          exact k2
        have HT := hide TS
        clear k2 hb k3 IN NO TS
        generalize (⟨((u.data.toList.take h.size).map lowB).toArray⟩ : ByteArray) = Y at *
        have TS2 := unhide HT
        go_enter Tryd.func33, Tryd.ntmps33
        go_wp2_with fail
        refine (unhide L1).mono ?_
        rintro e w2 ⟨rfl, hb2⟩
        have B2 := hide hb2
        clear hb2
        go_wp2
        go_ret2
        exact ⟨by rw [unhide V]; rfl, unhide B2⟩
    · have t3 : ((u[h.size].toNat : Int) != 58) = true := by rw [bne_iff_ne]; omega
      have V := hide (unhide NO (fun kk => k3 (by have := kk.2.2; rw [unhide HL, hb] at this; have e : u[h.size] = 58 := (by simpa using this); rw [e]; rfl)))
      clear hb k3 IN NO
      go_enter Tryd.func33, Tryd.ntmps33
      go_wp2
      go_ret2
      exact ⟨by rw [unhide V]; rfl, Below.refl _ _⟩
  · have c1 : decide ((u.size : Int) ≤ (h.size : Int)) = true := by rw [decide_eq_true_eq]; omega
    have c1' : decide (u.size ≤ h.size) = true := by rw [decide_eq_true_eq]; omega
    have V := hide (unhide NO (fun k => k1 (by have := k.1; rw [unhide HL] at this; exact this)))
    clear IN NO
    go_enter Tryd.func33, Tryd.ntmps33
    go_wp2
    go_ret2
    exact ⟨by rw [unhide V]; rfl, Below.refl _ _⟩
end Go.Proofs.YtmkjocamknhcbaaDoor
