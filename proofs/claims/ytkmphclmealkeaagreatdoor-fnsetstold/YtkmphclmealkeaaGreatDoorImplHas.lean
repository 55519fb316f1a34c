/- The program's sets: what is in one, how many it has. -/
import Derived.Test.YtkmphclmealkeaaGreatDoorImplOk
namespace Go.Proofs.YtkmphclmealkeaaGreatDoor
open Go.RowKit
open Plain
set_option linter.unusedVariables false
set_option maxHeartbeats 4000000 in
set_option maxRecDepth 100000 in
theorem impl_SetSize_any (s : List Rg) (v : Value) (w : World) (hs : s.length ≤ 1048576) (h : ReadO w v s) :
    Calls Tryz.prog 23 #[v] w fun e w' => e = .returned (.int .i64 (sizeL s)) ∧ Below w.heap.size w w' := by
  have OK := hide (impl_SetOk_any s v w hs h)
  obtain ⟨a, c, rfl, hcap, hc⟩ := h
  have C := hide hc
  clear hc
  cases ho : okS s with
  | false =>
    have HR := hide (sizeL_no ho)
    rw [ho] at OK
    go_enter Tryz.func23, Tryz.ntmps23
    go_wp2_with fail
    refine (unhide OK).mono ?_
    rintro e w1 ⟨rfl, hb1⟩
    go_wp2
    go_ret
    exact ⟨by rw [unhide HR]; rfl, hb1⟩
  | true =>
    have HR := hide (sizeTo_all ho)
    have hoF := (okS_parts ho).1
    have hl40 := (okS_parts ho).2
    rw [ho] at OK
    go_enter Tryz.func23, Tryz.ntmps23
    go_wp2_with fail
    refine (unhide OK).mono ?_
    rintro e w1 ⟨rfl, hb1⟩
    go_wp2
    go_loopw [3, 11] (fun z i wr => ∃ k : Nat, k ≤ s.length ∧ i = .int .i64 k ∧ z = .int .i64 (sizeTo s k) ∧ Below w.heap.size w wr) (fun _ i _ => s.length - (intOf i).toNat)
    case atStart => exact ⟨0, Nat.zero_le _, rfl, by simp [sizeTo], hb1⟩
    case round =>
      obtain ⟨k, hk, rfl, rfl, hbel⟩ := hrel
      by_cases hlt : k < s.length
      · have hgk : s[k]? = some s[k] := List.getElem?_eq_getElem hlt
        obtain ⟨g, o, hga, hgl, c0, c1⟩ := unhide C k s[k] hgk
        subst hga
        have T := hide (sizeTo_succ hgk)
        have hbd := sizeTo_bound hoF k hk
        have hat := ok_at hoF hgk
        rw [← hbel.cell (p := ⟨g, _, none⟩) hgl] at c0 c1
        have hwr : w.heap.size ≤ wr.heap.size := hbel.size
        have hik : (0 : Int) ≤ (k : Int) := by omega
        have hil : (k : Int) < (s.length : Int) := by omega
        generalize s[k] = r at *
        obtain ⟨rl, rh⟩ := r
        simp only at c0 c1 T hat
        have HB : Hid (∀ O, Below w.heap.size w (wr.alloc O)) := fun O => hbel.alloc hwr O
        have HZ : Hid (∀ x, sizeTo s k + (rh - rl + 1) = x → sizeTo s (k + 1) = x) := fun x hx => by rw [← hx, unhide T]; omega
        generalize sizeTo s k = z at *
        have b1 : IntKind.i64.wrap (rh - rl) = rh - rl := by rw [IntKind.wrap_i64]; omega
        have b2 : IntKind.i64.wrap (rh - rl + 1) = rh - rl + 1 := by rw [IntKind.wrap_i64]; omega
        have b3 : IntKind.i64.wrap (z + (rh - rl + 1)) = z + (rh - rl + 1) := by rw [IntKind.wrap_i64]; omega
        clear hgk hoF
        go_wp2
        go_roundw
        case rel => exact ⟨k + 1, by omega, by go_num, by rw [unhide HZ _ rfl], unhide HB _⟩
        case measure => simp [intOf]; omega
      · obtain rfl : k = s.length := by omega
        go_wp2
        go_ret
        exact ⟨by rw [unhide HR]; rfl, hbel⟩
end Go.Proofs.YtkmphclmealkeaaGreatDoor
