/- Boxes: the program's within and BoxName. -/
import Derived.Test.YtihdgfihdecalaaGreatDoorBoxNameS
import Derived.Test.YtihdgfihdecalaaGreatDoorRuB
namespace Go.Proofs.YtihdgfihdecalaaGreatDoor
open Go.RowKit
open Plain
set_option linter.unusedVariables false

theorem impl_within_any (x l m : Int) (w : World) : Calls Tryz.prog 66 #[.int .i64 x, .int .i64 l, .int .i64 m] w fun e w' => e = .returned (.bool (inI x l m)) ∧ w' = w := by
  unfold inI
  by_cases h : l ≤ x
  · have hd : decide (l ≤ x) = true := by simpa using h
    by_cases h2 : x ≤ m
    · have hd2 : decide (x ≤ m) = true := by simpa using h2
      rw [hd, hd2]
      go_enter Tryz.func66, Tryz.ntmps66
      go_wp2
      go_ret
      exact ⟨rfl, rfl⟩
    · have hd2 : decide (x ≤ m) = false := by simpa using h2
      rw [hd, hd2]
      go_enter Tryz.func66, Tryz.ntmps66
      go_wp2
      go_ret
      exact ⟨rfl, rfl⟩
  · have hd : decide (l ≤ x) = false := by simpa using h
    rw [hd]
    go_enter Tryz.func66, Tryz.ntmps66
    go_wp2
    go_ret
    exact ⟨rfl, rfl⟩

namespace Plain
theorem name_bad {l : List UInt8} {p : Nat} (hp : p < l.length) (h : letter (l.getD p 0) = false) : nameOkL l = false :=
  name_no (i := p) (c := l.getD p 0) (by rw [List.getD_eq_getElem?_getD, List.getElem?_eq_getElem hp]; rfl) h
theorem name_good {l : List UInt8} (h : ∀ j, j < l.length → letter (l.getD j 0) = true) : nameOkL l = inI (l.length : Int) 1 8 :=
  name_yes fun i c hc => by
    have hi := (List.getElem?_eq_some_iff.1 hc).1
    have := h i hi
    rwa [List.getD_eq_getElem?_getD, hc] at this
theorem letter_no {c : UInt8} (h : c.toNat < 97 ∨ 122 < c.toNat) : letter c = false := by
  unfold letter
  rcases h with h | h
  · rw [decide_eq_false (by omega)]; rfl
  · rw [decide_eq_false (p := c.toNat ≤ 122) (by omega), Bool.and_false]
theorem letter_yes {c : UInt8} (h : 97 ≤ c.toNat) (h2 : c.toNat ≤ 122) : letter c = true := by
  unfold letter
  rw [decide_eq_true h, decide_eq_true h2]; rfl
end Plain

set_option maxHeartbeats 2000000 in
set_option maxRecDepth 100000 in
theorem impl_BoxName_any (s : ByteArray) (w : World) (hs : s.size ≤ 1048576) :
    Calls Tryz.prog 65 #[.string s] w fun e w' => e = .returned (.bool (nameOkL s.data.toList)) ∧ Below w.heap.size w w' := by
  have BI : ∀ p, Hid (Below w.heap.size w (w.iter s p)) := fun p => (Below.refl _ w).alloc (Nat.le_refl _) _
  go_enter Tryz.func65, Tryz.ntmps65
  go_wp2
  go_loopw [4] (fun _ wr => ∃ p : Nat, p ≤ s.size ∧ wr = w.iter s p ∧ ∀ j, j < p → letter (s.data.toList.getD j 0) = true) (fun _ wr => s.size - wr.iterPos w.heap.size)
  case atStart => exact ⟨0, Nat.zero_le _, rfl, fun j hj => by omega⟩
  case round =>
    obtain ⟨p, hp, rfl, hall⟩ := hrel
    by_cases hlt : p < s.size
    · have hnx := fun ty => run_next_any (P := Tryz.prog) w s p ty hlt
      rcases rune_step s p hlt with ⟨hlo, hd⟩ | ⟨hhi, hd1, hsp⟩
      · rw [hd] at hnx
        simp only at hnx
        have ST : Hid (letter (s.data.toList.getD p 0) = true → ∀ j, j < p + 1 → letter (s.data.toList.getD j 0) = true) := fun h j hj => by
          by_cases e : j = p
          · rw [e]; exact h
          · exact hall j (by omega)
        have NO : Hid (letter (s.data.toList.getD p 0) = false → nameOkL s.data.toList = false) := fun h => name_bad (show p < s.data.toList.length from hlt) h
        have L1 := hide (fun h => letter_no (c := s.data.toList.getD p 0) h)
        have L2 := hide (fun h h2 => letter_yes (c := s.data.toList.getD p 0) h h2)
        clear hall hd
        generalize (s.data.toList.getD p 0).toNat = x at *
        by_cases h0 : x < 97
        · have t0 : decide ((x : Int) < 97) = true := by rw [decide_eq_true_eq]; omega
          have V := hide (unhide NO (unhide L1 (.inl h0)))
          go_wp2
          go_ret
          exact ⟨by rw [unhide V]; rfl, unhide (BI _)⟩
        · have t0 : decide ((x : Int) < 97) = false := by rw [decide_eq_false_iff_not]; omega
          by_cases h1 : 122 < x
          · have t1 : decide ((122 : Int) < (x : Int)) = true := by rw [decide_eq_true_eq]; omega
            have V := hide (unhide NO (unhide L1 (.inr h1)))
            go_wp2
            go_ret
            exact ⟨by rw [unhide V]; rfl, unhide (BI _)⟩
          · have t1 : decide ((122 : Int) < (x : Int)) = false := by rw [decide_eq_false_iff_not]; omega
            have V := hide (unhide ST (unhide L2 (by omega) (by omega)))
            go_wp2
            go_roundw
            case rel => exact ⟨p + 1, by omega, rfl, unhide V⟩
            case measure => simp only [World.iterPos_iter]; omega
      · have V := hide (name_bad (l := s.data.toList) (p := p) hlt (letter_no (.inr (by have := (hsp p (Nat.le_refl _) (by omega)).2; omega))))
        clear hall hsp
        obtain ⟨r, hr⟩ : ∃ r, Utf8.decode s p = r := ⟨_, rfl⟩
        rw [hr] at hnx hhi hd1
        clear hr
        obtain ⟨x, d⟩ := r
        simp only at hnx hhi hd1
        have t0 : decide ((x : Int) < 97) = false := by rw [decide_eq_false_iff_not]; omega
        have t1 : decide ((122 : Int) < (x : Int)) = true := by rw [decide_eq_true_eq]; omega
        go_wp2
        go_ret
        exact ⟨by rw [unhide V]; rfl, unhide (BI _)⟩
    · have hnx := fun ty => run_next_end (P := Tryz.prog) w s p ty hlt
      have V := hide (name_good (l := s.data.toList) (fun j hj => hall j (by have : j < s.size := hj; omega)))
      rw [show s.data.toList.length = s.size from rfl] at V
      have Q := hide (impl_within_any (s.size : Int) 1 8 (w.iter s p))
      clear hall
      go_wp2_with fail
      refine (unhide Q).mono ?_
      rintro e w1 ⟨rfl, hw1⟩
      subst w1
      go_wp2
      go_ret
      exact ⟨by rw [unhide V]; rfl, unhide (BI _)⟩
end Go.Proofs.YtihdgfihdecalaaGreatDoor
