/- Mails: the specification's BaseSubject. -/
import Derived.Test.YtmkjocamknhcbaaDoorHeadS
namespace Go.Proofs.YtmkjocamknhcbaaDoor
open Go.RowKit
open Plain
set_option linter.unusedVariables false

namespace Plain
def reL : List UInt8 := [114, 101, 58]
def fwL : List UInt8 := [102, 119, 100, 58]
theorem take_short {u x : List UInt8} {n : Nat} (h : u.length < n) (hx : x.length = n) : u.take n ≠ x := fun e => by
  have := congrArg List.length e
  rw [List.length_take, hx] at this
  omega
theorem base_re {f : Nat} {u : List UInt8} (h : u.take 3 = reL) : baseF (f + 1) u = baseF f (trimL (u.drop 3)) := by rw [baseF]; exact if_pos h
theorem base_fw {f : Nat} {u : List UInt8} (h0 : u.take 3 ≠ reL) (h : u.take 4 = fwL) : baseF (f + 1) u = baseF f (trimL (u.drop 4)) := by rw [baseF]; exact (if_neg h0).trans (if_pos h)
theorem base_no {f : Nat} {u : List UInt8} (h0 : u.take 3 ≠ reL) (h : u.take 4 ≠ fwL) : baseF f u = u := by
  cases f with
  | zero => rfl
  | succ f => rw [baseF]; exact (if_neg h0).trans (if_neg h)
theorem head_test {u : ByteArray} {n : Nat} {x : List UInt8} (h : u.data.toList.take n = x) : ((u.extract 0 n).toList == x) = true := by rw [ByteArray.toList_eq, ext_head, beq_iff_eq]; exact h
theorem head_test_no {u : ByteArray} {n : Nat} {x : List UInt8} (h : u.data.toList.take n ≠ x) : ((u.extract 0 n).toList == x) = false := by rw [ByteArray.toList_eq, ext_head, beq_eq_false_iff_ne]; exact h
end Plain

set_option maxHeartbeats 4000000 in
set_option maxRecDepth 100000 in
theorem spec_BaseSubject_any (s : ByteArray) (w : World) (hs : s.size ≤ 1048576) :
    Calls Tryd.prog 23 #[.string s] w fun e w' => e = .returned (.string ⟨(baseL s.data.toList).toArray⟩) ∧ Below w.heap.size w w' := by
  have hlen : (trimL s.data.toList).length ≤ s.size := trimL_len s.data.toList
  have Q1 := hide (l07Trim_any s w hs)
  have hz : (⟨(trimL s.data.toList).toArray⟩ : ByteArray).size ≤ 1048576 := by show (trimL s.data.toList).toArray.size ≤ 1048576; simp; omega
  have Q2 := hide (l06Low_any ⟨(trimL s.data.toList).toArray⟩ w hz)
  rw [show (⟨(trimL s.data.toList).toArray⟩ : ByteArray).data.toList = trimL s.data.toList from rfl] at Q2
  have ST : Hid (baseF s.size ((trimL s.data.toList).map lowB) = baseL s.data.toList) := rfl
  have hl2 : ((trimL s.data.toList).map lowB).length ≤ s.size := by rw [List.length_map]; exact hlen
  generalize (trimL s.data.toList).map lowB = L at *
  clear hlen hz
  go_enter Tryd.func23, Tryd.ntmps23
  go_wp2_with fail
  refine (unhide Q1).mono ?_
  rintro e w1 ⟨rfl, hw1⟩
  subst w1
  go_wp2_with fail
  refine (unhide Q2).mono ?_
  rintro e w1 ⟨rfl, hb1⟩
  have BW := hide hb1
  clear hb1 Q1 Q2
  go_wp2
  go_loop [0] (fun v => ∃ (u : ByteArray) (f : Nat), v = .string u ∧ u.size ≤ f ∧ f ≤ s.size ∧ baseF f u.data.toList = baseL s.data.toList) (fun v => strSize v)
  case atStart => exact ⟨⟨L.toArray⟩, s.size, rfl, by show L.toArray.size ≤ s.size; simpa using hl2, Nat.le_refl _, unhide ST⟩
  case round =>
    obtain ⟨u, f, rfl, huf, hfs, hbf⟩ := hrel
    clear hl2
    have UL : Hid (u.data.toList.length = u.size) := rfl
    by_cases k3 : 3 ≤ u.size
    · have c1 : decide ((3 : Int) ≤ (u.size : Int)) = true := by rw [decide_eq_true_eq]; omega
      by_cases hre : u.data.toList.take 3 = reL
      · have t1 : ((u.extract 0 3).toList == [114, 101, 58]) = true := head_test hre
        obtain ⟨f', rfl⟩ : ∃ f', f = f' + 1 := ⟨f - 1, by omega⟩
        rw [base_re hre] at hbf
        have TQ := hide (l07Trim_any (u.extract 3 u.size) w1 (by rw [ByteArray.size_extract]; omega))
        rw [ext_tail] at TQ
        have hlen := trimL_len (u.data.toList.drop 3)
        rw [List.length_drop, unhide UL] at hlen
        have NX := hide hbf
        generalize trimL (u.data.toList.drop 3) = T at *
        clear hbf hre
        go_wp2_with fail
        refine (unhide TQ).mono ?_
        rintro e w2 ⟨rfl, hw2⟩
        subst w2
        go_wp2
        exact ⟨⟨⟨T.toArray⟩, f', rfl, by show T.toArray.size ≤ f'; simp; omega, by omega, unhide NX⟩, by show T.toArray.size < u.size; simp; omega⟩
      · have t1 : ((u.extract 0 3).toList == [114, 101, 58]) = false := head_test_no hre
        by_cases k4 : 4 ≤ u.size
        · have c2 : decide ((4 : Int) ≤ (u.size : Int)) = true := by rw [decide_eq_true_eq]; omega
          by_cases hfw : u.data.toList.take 4 = fwL
          · have t2 : ((u.extract 0 4).toList == [102, 119, 100, 58]) = true := head_test hfw
            obtain ⟨f', rfl⟩ : ∃ f', f = f' + 1 := ⟨f - 1, by omega⟩
            rw [base_fw hre hfw] at hbf
            have TQ := hide (l07Trim_any (u.extract 4 u.size) w1 (by rw [ByteArray.size_extract]; omega))
            rw [ext_tail] at TQ
            have hlen := trimL_len (u.data.toList.drop 4)
            rw [List.length_drop, unhide UL] at hlen
            have NX := hide hbf
            generalize trimL (u.data.toList.drop 4) = T at *
            clear hbf hre hfw
            go_wp2_with fail
            refine (unhide TQ).mono ?_
            rintro e w2 ⟨rfl, hw2⟩
            subst w2
            go_wp2
            exact ⟨⟨⟨T.toArray⟩, f', rfl, by show T.toArray.size ≤ f'; simp; omega, by omega, unhide NX⟩, by show T.toArray.size < u.size; simp; omega⟩
          · have t2 : ((u.extract 0 4).toList == [102, 119, 100, 58]) = false := head_test_no hfw
            rw [base_no hre hfw] at hbf
            have V := hide hbf
            clear hbf hre hfw
            go_wp2
            go_ret
            exact ⟨by rw [← unhide V]; rfl, unhide BW⟩
        · have c2 : decide ((4 : Int) ≤ (u.size : Int)) = false := by rw [decide_eq_false_iff_not]; omega
          rw [base_no hre (take_short (by rw [unhide UL]; omega) rfl)] at hbf
          have V := hide hbf
          clear hbf hre
          go_wp2
          go_ret
          exact ⟨by rw [← unhide V]; rfl, unhide BW⟩
    · have c1 : decide ((3 : Int) ≤ (u.size : Int)) = false := by rw [decide_eq_false_iff_not]; omega
      have c2 : decide ((4 : Int) ≤ (u.size : Int)) = false := by rw [decide_eq_false_iff_not]; omega
      rw [base_no (take_short (by rw [unhide UL]; omega) rfl) (take_short (by rw [unhide UL]; omega) rfl)] at hbf
      have V := hide hbf
      clear hbf
      go_wp2
      go_ret
      exact ⟨by rw [← unhide V]; rfl, unhide BW⟩
end Go.Proofs.YtmkjocamknhcbaaDoor
