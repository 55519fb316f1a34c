/- The program's sets: what is in one, how many it has. -/
import Derived.Test.YtkmphclmealkeaaImplOk
namespace Go.Proofs.Ytkmphclmealkeaa
open Go.RowKit
open Plain
set_option linter.unusedVariables false
set_option maxHeartbeats 4000000 in
set_option maxRecDepth 100000 in
theorem impl_SetHas_any (s : List Rg) (v : Value) (n : Int) (w : World) (hs : s.length ≤ 1048576) (h : ReadO w v s) :
    Calls Try.prog 13 #[v, .int .i64 n] w fun e w' => e = .returned (.bool (hasB s n)) ∧ Below w.heap.size w w' := by
  obtain ⟨a, c, rfl, hcap, hc⟩ := h
  have C := hide hc
  clear hc
  go_enter Try.func13, Try.ntmps13
  go_wp2
  go_loopw [9] (fun i wr => ∃ k : Nat, k ≤ s.length ∧ i = .int .i64 k ∧ hasB (s.take k) n = false ∧ Below w.heap.size w wr) (fun i _ => s.length - (intOf i).toNat)
  case atStart => exact ⟨0, Nat.zero_le _, rfl, rfl, Below.refl _ _⟩
  case round =>
    obtain ⟨k, hk, rfl, hno, hbel⟩ := hrel
    by_cases hlt : k < s.length
    · have hgk : s[k]? = some s[k] := List.getElem?_eq_getElem hlt
      obtain ⟨g, o, hga, hgl, c0, c1⟩ := unhide C k s[k] hgk
      subst hga
      have T := hide (hasB_take (n := n) hgk)
      have PT := hide (hasB_part (s := s) (n := n) (k + 1))
      rw [← hbel.cell (p := ⟨g, _, none⟩) hgl] at c0 c1
      have hwr : w.heap.size ≤ wr.heap.size := hbel.size
      have hik : (0 : Int) ≤ (k : Int) := by omega
      have hil : (k : Int) < (s.length : Int) := by omega
      generalize s[k] = r at *
      obtain ⟨rl, rh⟩ := r
      simp only at c0 c1 T
      have HN := hide hno
      clear hno hgk
      have HB : Hid (∀ O, Below w.heap.size w (wr.alloc O)) := fun O => hbel.alloc hwr O
      by_cases h1 : rl ≤ n
      · have d1 : decide (rl ≤ n) = true := by simpa using h1
        by_cases h2 : n ≤ rh
        · have d2 : decide (n ≤ rh) = true := by simpa using h2
          have R : Hid (hasB s n = true) := unhide PT (by rw [unhide T, decide_eq_true h1, decide_eq_true h2]; simp)
          go_wp2
          go_ret
          exact ⟨by rw [unhide R]; rfl, unhide HB _⟩
        · have d2 : decide (n ≤ rh) = false := by simpa using h2
          have R : Hid (hasB (s.take (k + 1)) n = false) := (unhide T).trans (by rw [unhide HN, decide_eq_true h1, decide_eq_false h2]; rfl)
          go_wp2
          go_roundw
          case rel => exact ⟨k + 1, by omega, by go_num, unhide R, unhide HB _⟩
          case measure => simp [intOf]; omega
      · have d1 : decide (rl ≤ n) = false := by simpa using h1
        have R : Hid (hasB (s.take (k + 1)) n = false) := (unhide T).trans (by rw [unhide HN, decide_eq_false h1]; rfl)
        go_wp2
        go_roundw
        case rel => exact ⟨k + 1, by omega, by go_num, unhide R, unhide HB _⟩
        case measure => simp [intOf]; omega
    · obtain rfl : k = s.length := by omega
      have HR : Hid (hasB s n = false) := by rw [List.take_length] at hno; exact hno
      clear hno
      go_wp2
      go_ret
      exact ⟨by rw [unhide HR]; rfl, hbel⟩

set_option maxHeartbeats 4000000 in
set_option maxRecDepth 100000 in
theorem impl_SetSize_any (s : List Rg) (v : Value) (w : World) (hs : s.length ≤ 1048576) (h : ReadO w v s) :
    Calls Try.prog 15 #[v] w fun e w' => e = .returned (.int .i64 (sizeL s)) ∧ Below w.heap.size w w' := by
  have OK := hide (impl_SetOk_any s v w hs h)
  obtain ⟨a, c, rfl, hcap, hc⟩ := h
  have C := hide hc
  clear hc
  cases ho : okS s with
  | false =>
    have HR := hide (sizeL_no ho)
    rw [ho] at OK
    go_enter Try.func15, Try.ntmps15
    go_wp2_with fail
    refine (unhide OK).mono ?_
    rintro e w1 ⟨rfl, hb1⟩
    go_wp2
    go_ret
    exact ⟨by rw [unhide HR]; rfl, hb1⟩
  | true =>
    have HR := hide (sizeTo_all ho)
    have hoF := (okS_parts ho).1
    have hl40 := (okS_parts ho).2
    rw [ho] at OK
    go_enter Try.func15, Try.ntmps15
    go_wp2_with fail
    refine (unhide OK).mono ?_
    rintro e w1 ⟨rfl, hb1⟩
    go_wp2
    go_loopw [3, 11] (fun z i wr => ∃ k : Nat, k ≤ s.length ∧ i = .int .i64 k ∧ z = .int .i64 (sizeTo s k) ∧ Below w.heap.size w wr) (fun _ i _ => s.length - (intOf i).toNat)
    case atStart => exact ⟨0, Nat.zero_le _, rfl, by simp [sizeTo], hb1⟩
    case round =>
      obtain ⟨k, hk, rfl, rfl, hbel⟩ := hrel
      by_cases hlt : k < s.length
      · have hgk : s[k]? = some s[k] := List.getElem?_eq_getElem hlt
        obtain ⟨g, o, hga, hgl, c0, c1⟩ := unhide C k s[k] hgk
        subst hga
        have T := hide (sizeTo_succ hgk)
        have hbd := sizeTo_bound hoF k hk
        have hat := ok_at hoF hgk
        rw [← hbel.cell (p := ⟨g, _, none⟩) hgl] at c0 c1
        have hwr : w.heap.size ≤ wr.heap.size := hbel.size
        have hik : (0 : Int) ≤ (k : Int) := by omega
        have hil : (k : Int) < (s.length : Int) := by omega
        generalize s[k] = r at *
        obtain ⟨rl, rh⟩ := r
        simp only at c0 c1 T hat
        have HB : Hid (∀ O, Below w.heap.size w (wr.alloc O)) := fun O => hbel.alloc hwr O
        have HZ : Hid (∀ x, sizeTo s k + (rh - rl + 1) = x → sizeTo s (k + 1) = x) := fun x hx => by rw [← hx, unhide T]; omega
        generalize sizeTo s k = z at *
        have b1 : IntKind.i64.wrap (rh - rl) = rh - rl := by rw [IntKind.wrap_i64]; omega
        have b2 : IntKind.i64.wrap (rh - rl + 1) = rh - rl + 1 := by rw [IntKind.wrap_i64]; omega
        have b3 : IntKind.i64.wrap (z + (rh - rl + 1)) = z + (rh - rl + 1) := by rw [IntKind.wrap_i64]; omega
        clear hgk hoF
        go_wp2
        go_roundw
        case rel => exact ⟨k + 1, by omega, by go_num, by rw [unhide HZ _ rfl], unhide HB _⟩
        case measure => simp [intOf]; omega
      · obtain rfl : k = s.length := by omega
        go_wp2
        go_ret
        exact ⟨by rw [unhide HR]; rfl, hbel⟩
end Go.Proofs.Ytkmphclmealkeaa
