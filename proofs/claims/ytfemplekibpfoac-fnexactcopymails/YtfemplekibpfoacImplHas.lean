/- The program's sets: what is in one, how many it has. -/
import Derived.Test.YtfemplekibpfoacImplOk
namespace Go.Proofs.Ytfemplekibpfoac
open Go.RowKit
open Plain
set_option linter.unusedVariables false
set_option maxHeartbeats 4000000 in
set_option maxRecDepth 100000 in
theorem impl_SetHas_any (s : List Rg) (v : Value) (n : Int) (w : World) (hs : s.length ≤ 1048576) (h : ReadO w v s) :
    Calls Try.prog 98 #[v, .int .i64 n] w fun e w' => e = .returned (.bool (hasB s n)) ∧ Below w.heap.size w w' := by
  obtain ⟨a, c, rfl, hcap, hc⟩ := h
  have C := hide hc
  clear hc
  go_enter Try.func98, Try.ntmps98
  go_wp2
  go_loopw [9] (fun i wr => ∃ k : Nat, k ≤ s.length ∧ i = .int .i64 k ∧ hasB (s.take k) n = false ∧ Below w.heap.size w wr) (fun i _ => s.length - (intOf i).toNat)
  case atStart => exact ⟨0, Nat.zero_le _, rfl, rfl, Below.refl _ _⟩
  case round =>
    obtain ⟨k, hk, rfl, hno, hbel⟩ := hrel
    by_cases hlt : k < s.length
    · have hgk : s[k]? = some s[k] := List.getElem?_eq_getElem hlt
      obtain ⟨g, o, hga, hgl, c0, c1⟩ := unhide C k s[k] hgk
      subst hga
      have T := hide (hasB_take (n := n) hgk)
      have PT := hide (hasB_part (s := s) (n := n) (k + 1))
      rw [← hbel.cell (p := ⟨g, _, none⟩) hgl] at c0 c1
      have hwr : w.heap.size ≤ wr.heap.size := hbel.size
      have hik : (0 : Int) ≤ (k : Int) := by omega
      have hil : (k : Int) < (s.length : Int) := by omega
      generalize s[k] = r at *
      obtain ⟨rl, rh⟩ := r
      simp only at c0 c1 T
      have HN := hide hno
      clear hno hgk
      have HB : Hid (∀ O, Below w.heap.size w (wr.alloc O)) := fun O => hbel.alloc hwr O
      by_cases h1 : rl ≤ n
      · have d1 : decide (rl ≤ n) = true := by simpa using h1
        by_cases h2 : n ≤ rh
        · have d2 : decide (n ≤ rh) = true := by simpa using h2
          have R : Hid (hasB s n = true) := unhide PT (by rw [unhide T, decide_eq_true h1, decide_eq_true h2]; simp)
          go_wp2
          go_ret
          exact ⟨by rw [unhide R]; rfl, unhide HB _⟩
        · have d2 : decide (n ≤ rh) = false := by simpa using h2
          have R : Hid (hasB (s.take (k + 1)) n = false) := (unhide T).trans (by rw [unhide HN, decide_eq_true h1, decide_eq_false h2]; rfl)
          go_wp2
          go_roundw
          case rel => exact ⟨k + 1, by omega, by go_num, unhide R, unhide HB _⟩
          case measure => simp [intOf]; omega
      · have d1 : decide (rl ≤ n) = false := by simpa using h1
        have R : Hid (hasB (s.take (k + 1)) n = false) := (unhide T).trans (by rw [unhide HN, decide_eq_false h1]; rfl)
        go_wp2
        go_roundw
        case rel => exact ⟨k + 1, by omega, by go_num, unhide R, unhide HB _⟩
        case measure => simp [intOf]; omega
    · obtain rfl : k = s.length := by omega
      have HR : Hid (hasB s n = false) := by rw [List.take_length] at hno; exact hno
      clear hno
      go_wp2
      go_ret
      exact ⟨by rw [unhide HR]; rfl, hbel⟩

end Go.Proofs.Ytfemplekibpfoac
