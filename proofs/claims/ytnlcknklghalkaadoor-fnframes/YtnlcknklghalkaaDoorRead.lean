/- The reading of a number: what both ReadVar answer. -/
import Derived.Test.YtnlcknklghalkaaDoorRows
import Derived.Test.YtnlcknklghalkaaDoorReadPlain
import Derived.Test.YtnlcknklghalkaaDoorVar
import Derived.WalkKit
import Derived.WalkSpells
import Derived.ProofKit
import Derived.Handy
import Derived.Deep.RegionWith
import Derived.Deep.RegionHeld3
import Derived.Deep.QuietTactic
import Derived.BigQuiet
import Derived.WalkSmall
namespace Go.Proofs.YtnlcknklghalkaaDoor
open Go.RowKit
open Plain
set_option linter.unusedVariables false

set_option maxHeartbeats 1000000 in
set_option maxRecDepth 100000 in
theorem spec_ReadVar_in (s : ByteArray) (A : Nat) (w : World) (hs : s.size ≤ 1048576) (hA : A ≤ s.size) :
    Calls Tryd.prog 33 #[.string s, .int .i64 A] w fun e w' => e = .returned (rvV A (rdL 5 [] (s.data.toList.drop A))) ∧ Below w.heap.size w w' := by
  go_enter Tryd.func33, Tryd.ntmps33
  go_wp2_with (first | (go_at_call 29; refine (l01In_yes _ _ _ _ (by omega) (by omega)).mono ?_; rintro e w' ⟨rfl, rfl⟩))
  go_loopw [7, 8, 9] (fun n sc i wr => ∃ (m c k : Nat), n = .int .i64 m ∧ sc = .int .i64 c ∧ i = .int .i64 k ∧ RdInv s.data.toList A k m c ∧ Below w.heap.size w wr)
    (fun _ _ i _ => s.size - (intOf i).toNat)
  case atStart => exact ⟨0, 1, A, rfl, rfl, rfl, RdInv.start _ A (by simpa using hA), Below.refl _ _⟩
  case round =>
    obtain ⟨m, c, k, rfl, rfl, rfl, hinv, hbel⟩ := hrel
    obtain ⟨b1, b2, b3, b4, b5⟩ := hinv.bound
    have hAk : A ≤ k := hinv.1
    have hk5 : k ≤ A + 5 := hinv.2.2.1
    have hks : k ≤ s.size := by simpa using hinv.2.1
    have b3' : Hid _ := b3
    clear b3
    by_cases hlt : k < s.size
    · by_cases hl5 : k < A + 5
      · have hc4 := b4 hl5
        clear b4 b5
        by_cases h128 : 128 ≤ s[k].toNat
        · have hw := wrapRd m c s[k].toNat b1 hc4
          have hle := rdn_le m c s[k].toNat b1 hc4
          have hx : s[k].toNat < 256 := s[k].toNat_lt
          have hst := hinv.step (byte_at hlt) hl5 h128
          clear hinv
          go_wp2
          go_roundw
          case rel => exact ⟨rdn m c s[k].toNat, c * 128, k + 1, by rw [hw], by go_num, by go_num, hst, hbel⟩
          case measure => simp [intOf]; omega
        · have hlast := hinv.last (byte_at hlt) hl5 (by omega)
          have hw := wrapRd m c s[k].toNat b1 hc4
          have hle := rdn_le m c s[k].toNat b1 hc4
          have HL := hide hlast
          have hwl : Hid _ := hw
          clear hinv hlast hw
          go_wp2
          rw [hwl.out]
          clear hwl
          generalize rdn m c s[k].toNat = y at *
          by_cases hy : 1000000000 < y
          · have hd : decide ((1000000000 : Int) < y) = true := by simp; omega
            go_quiet (fail)
            go_wp2
            go_ret3
            exact ⟨by rw [rv_no (unhide HL) (.inl hy)]; rfl, below_drewN hbel _⟩
          · have hd : decide ((1000000000 : Int) < y) = false := by simp; omega
            have hwk : IntKind.i64.wrap ((k : Int) + 1) = (k : Int) + 1 := by rw [IntKind.wrap_i64]; omega
            have hI1 : (0 : Int) ≤ (k : Int) + 1 := by omega
            have hI2 : (A : Int) ≤ (k : Int) + 1 := by omega
            have hI3 : (k : Int) + 1 ≤ (s.size : Int) := by omega
            go_region_held3 (fun _ => True) (trivial) ((go_at_call 30; refine (l01Var_any y _ (by omega)).mono ?_; rintro e w1 ⟨rfl, hb1⟩))
            go_wp2
            · have hq : (!varL y == (s.extract A (k + 1)).toList) = true := by assumption
              rw [ext_seg] at hq
              go_ret3
              exact ⟨by rw [rv_no (unhide HL) (.inr (by simpa using hq))]; rfl, below2 hbel.drew (by assumption)⟩
            · have hq : (!varL y == (s.extract A (k + 1)).toList) = false := by assumption
              rw [ext_seg] at hq
              go_ret3
              exact ⟨by rw [rv_yes hAk (unhide HL) hy (by simpa using hq)]; rfl, below2 hbel.drew (by assumption)⟩
      · have hstop := hide (hinv.stop (.inr (by omega)))
        clear hinv
        go_wp2
        go_ret3
        exact ⟨by rw [unhide hstop]; rfl, hbel⟩
    · have hstop := hide (hinv.stop (.inl (by simp; omega)))
      clear hinv
      go_wp2
      go_ret3
      exact ⟨by rw [unhide hstop]; rfl, hbel⟩

theorem spec_ReadVar_out (s : ByteArray) (a : Int) (w : World) (hs : s.size ≤ 1048576) (hA : a < 0 ∨ (s.size : Int) < a) :
    Calls Tryd.prog 33 #[.string s, .int .i64 a] w fun e w' => e = .returned (.tuple #[.int .i64 0, .int .i64 0, .bool false]) ∧ Below w.heap.size w w' := by
  go_enter Tryd.func33, Tryd.ntmps33
  go_wp2_with (first | (go_at_call 29; refine (l01In_no _ _ _ _ hA).mono ?_; rintro e w' ⟨rfl, rfl⟩))
  go_ret3
  exact ⟨rfl, Below.refl _ _⟩

theorem varEnd_yes (y A k x : Nat) (w : World) (h1 : y ≤ 1000000000) (h2 : ¬ (x = 0 ∧ A < k)) (hk : k ≤ 1048576) :
    Calls Tryd.prog 42 #[.int .i64 y, .int .i64 A, .int .i64 k, .int .u8 x] w fun e w' => e = .returned (.tuple #[.int .i64 y, .int .i64 ((k : Int) + 1), .bool true]) ∧ w = w' := by
  have hd : decide ((1000000000 : Int) < y) = false := by simp; omega
  by_cases hx : x = 0
  · subst hx
    have h3 : decide ((A : Int) < k) = false := by simp; omega
    go_enter Tryd.func42, Tryd.ntmps42
    go_wp2
    go_ret3
    exact ⟨rfl, rfl⟩
  · have h3 : ((x : Int) == 0) = false := by simp; omega
    go_enter Tryd.func42, Tryd.ntmps42
    go_wp2
    go_ret3
    exact ⟨rfl, rfl⟩

theorem varEnd_no (y A k x : Nat) (w : World) (hk : k ≤ 1048576) (h1 : 1000000000 < y ∨ (x = 0 ∧ A < k)) :
    Calls Tryd.prog 42 #[.int .i64 y, .int .i64 A, .int .i64 k, .int .u8 x] w fun e w' => e = .returned (.tuple #[.int .i64 0, .int .i64 0, .bool false]) ∧ w = w' := by
  by_cases hx : x = 0
  · subst hx
    by_cases h3 : A < k
    · have h4 : decide ((A : Int) < k) = true := by simp; omega
      go_enter Tryd.func42, Tryd.ntmps42
      go_wp2
      go_ret3
      exact ⟨rfl, rfl⟩
    · have h4 : decide ((A : Int) < k) = false := by simp; omega
      have hd : decide ((1000000000 : Int) < y) = true := by simp; omega
      go_enter Tryd.func42, Tryd.ntmps42
      go_wp2
      go_ret3
      exact ⟨rfl, rfl⟩
  · have h3 : ((x : Int) == 0) = false := by simp; omega
    have hd : decide ((1000000000 : Int) < y) = true := by simp; omega
    go_enter Tryd.func42, Tryd.ntmps42
    go_wp2
    go_ret3
    exact ⟨rfl, rfl⟩

set_option maxHeartbeats 1000000 in
set_option maxRecDepth 100000 in
theorem impl_ReadVar_in (s : ByteArray) (A : Nat) (w : World) (hs : s.size ≤ 1048576) (hA : A ≤ s.size) :
    Calls Tryd.prog 41 #[.string s, .int .i64 A] w fun e w' => e = .returned (rvV A (rdL 5 [] (s.data.toList.drop A))) ∧ w = w' := by
  have hd1 : decide ((A : Int) < 0) = false := by simp
  have hd2 : decide ((s.size : Int) < A) = false := by simp; omega
  go_enter Tryd.func41, Tryd.ntmps41
  go_wp2
  go_loop [7, 8, 9] (fun n sc i => ∃ (m c k : Nat), n = .int .i64 m ∧ sc = .int .i64 c ∧ i = .int .i64 k ∧ RdInv s.data.toList A k m c)
    (fun _ _ i => s.size - (intOf i).toNat)
  case atStart => exact ⟨0, 1, A, rfl, rfl, rfl, RdInv.start _ A (by simpa using hA)⟩
  case round =>
    obtain ⟨m, c, k, rfl, rfl, rfl, hinv⟩ := hrel
    obtain ⟨b1, b2, b3, b4, b5⟩ := hinv.bound
    have hAk : A ≤ k := hinv.1
    have hk5 : k ≤ A + 5 := hinv.2.2.1
    have hks : k ≤ s.size := by simpa using hinv.2.1
    have b3' : Hid _ := b3
    clear b3
    by_cases hlt : k < s.size
    · by_cases hl5 : k < A + 5
      · have hc4 := b4 hl5
        clear b4 b5
        by_cases h128 : 128 ≤ s[k].toNat
        · have hw := hide (wrapRd m c s[k].toNat b1 hc4)
          have hle := rdn_le m c s[k].toNat b1 hc4
          have hx : s[k].toNat < 256 := s[k].toNat_lt
          have hst := hinv.step (byte_at hlt) hl5 h128
          clear hinv
          go_wp2
          go_round
          case rel => exact ⟨rdn m c s[k].toNat, c * 128, k + 1, by rw [← unhide hw], by go_num, by go_num, hst⟩
          case measure => simp [intOf]; omega
        · have hlast := hide (hinv.last (byte_at hlt) hl5 (by omega))
          have hcan := hide (hinv.canon (byte_at hlt) hl5 (by omega))
          have hw := hide (wrapRd m c s[k].toNat b1 hc4)
          have hle := rdn_le m c s[k].toNat b1 hc4
          clear hinv
          go_wp2_with fail
          rw [unhide hw]
          clear hw
          generalize rdn m c s[k].toNat = y at *
          by_cases hy : 1000000000 < y ∨ (s[k].toNat = 0 ∧ A < k)
          · refine (varEnd_no y A k s[k].toNat _ (by omega) hy).mono ?_
            rintro e w' ⟨rfl, rfl⟩
            go_wp2
            go_ret3
            exact ⟨by rw [rv_no (unhide hlast) (hy.imp id (fun h e => (unhide hcan).1 e h))]; rfl, rfl⟩
          · have hn : ¬ (s[k].toNat = 0 ∧ A < k) := fun h => hy (.inr h)
            have hy1 : ¬ 1000000000 < y := fun h => hy (.inl h)
            refine (varEnd_yes y A k s[k].toNat _ (by omega) hn (by omega)).mono ?_
            rintro e w' ⟨rfl, rfl⟩
            go_wp2
            go_ret3
            exact ⟨by rw [rv_yes hAk (unhide hlast) hy1 ((unhide hcan).2 hn)]; rfl, rfl⟩
      · have hstop := hide (hinv.stop (.inr (by omega)))
        have hc5 := b5 (by omega)
        clear hinv b4 b5
        subst hc5
        go_wp2
        go_ret3
        exact ⟨by rw [unhide hstop]; rfl, rfl⟩
    · have hstop := hide (hinv.stop (.inl (by simp; omega)))
      clear hinv
      go_wp2
      go_ret3
      exact ⟨by rw [unhide hstop]; rfl, rfl⟩

theorem impl_ReadVar_out (s : ByteArray) (a : Int) (w : World) (hs : s.size ≤ 1048576) (hA : a < 0 ∨ (s.size : Int) < a) :
    Calls Tryd.prog 41 #[.string s, .int .i64 a] w fun e w' => e = .returned (.tuple #[.int .i64 0, .int .i64 0, .bool false]) ∧ w = w' := by
  by_cases h : a < 0
  · have hd1 : decide (a < 0) = true := by simpa using h
    go_enter Tryd.func41, Tryd.ntmps41
    go_wp2
    go_ret3
    exact ⟨rfl, rfl⟩
  · have hd1 : decide (a < 0) = false := by simpa using h
    have hd2 : decide ((s.size : Int) < a) = true := by simp; omega
    go_enter Tryd.func41, Tryd.ntmps41
    go_wp2
    go_ret3
    exact ⟨rfl, rfl⟩
end Go.Proofs.YtnlcknklghalkaaDoor
