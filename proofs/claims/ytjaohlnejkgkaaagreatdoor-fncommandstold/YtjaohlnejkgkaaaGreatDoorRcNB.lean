/- Commands: the program's reader: a step, some of the states. Made by gen_rci.py. -/
import Derived.Test.YtjaohlnejkgkaaaGreatDoorRcIA
namespace Go.Proofs.YtjaohlnejkgkaaaGreatDoor
open Go.RowKit
open Plain
set_option linter.unusedVariables false
set_option linter.unusedSimpArgs false
attribute [local go_sem] cell_of frozen_of
set_option maxHeartbeats 4000000 in
set_option maxRecDepth 100000 in
theorem next_mem_4 (b : Nat) (s : Cs) (c : UInt8) (w W : World) (hf : FineOn s) (ht : s.taken ≤ 301) (hst : s.st = 4) (h : Rd w W b s) :
    Calls Tryz.prog 28 #[.pointer (some ⟨b, 0, none⟩), .int .u8 (c.toNat : Int)] W fun e W' => BegAns b w (nextC s c) e W' := by
  have hw : s.word.length ≤ 1000 := by have := hf.word; omega
  have hws : s.words.length ≤ 1000 := by have := hf.words; omega
  have hr0 := hf.r0
  have hr : s.run ≤ 1000 := by have := hf.r1; omega
  have hl0 := hf.l0
  have hl := hf.l1
  have ht0 : 0 ≤ s.taken := by have := hf.t0; omega
  have ht1 : s.taken ≤ 1000 := by omega
  have h0 := hide h
  obtain ⟨aw, cw, ab, cb, M⟩ := h
  unfold rdL at M
  rw [hst] at M
  have V := hide (next_4 (s := s) (c := c) hst)
  have e := unhide V
  rw [e]
  clear e
  go_enter Tryz.func28, Tryz.ntmps28
  go_wp2_with (first | (go_at_call 49; refine (quoted_mem _ s c _ _ hw (unhide h0)).mono ?_; rintro e w6 ⟨rfl, hK⟩))
  go_ret
  exact ⟨rfl, hK⟩
set_option maxHeartbeats 4000000 in
set_option maxRecDepth 100000 in
theorem next_mem_5 (b : Nat) (s : Cs) (c : UInt8) (w W : World) (hf : FineOn s) (ht : s.taken ≤ 301) (hst : s.st = 5) (h : Rd w W b s) :
    Calls Tryz.prog 28 #[.pointer (some ⟨b, 0, none⟩), .int .u8 (c.toNat : Int)] W fun e W' => BegAns b w (nextC s c) e W' := by
  have hw : s.word.length ≤ 1000 := by have := hf.word; omega
  have hws : s.words.length ≤ 1000 := by have := hf.words; omega
  have hr0 := hf.r0
  have hr : s.run ≤ 1000 := by have := hf.r1; omega
  have hl0 := hf.l0
  have hl := hf.l1
  have ht0 : 0 ≤ s.taken := by have := hf.t0; omega
  have ht1 : s.taken ≤ 1000 := by omega
  have h0 := hide h
  obtain ⟨aw, cw, ab, cb, M⟩ := h
  unfold rdL at M
  rw [hst] at M
  have V := hide (next_5 (s := s) (c := c) hst)
  by_cases h1 : c = 34
  · have d1 : ((c.toNat : Int) == 34) = true := byte_eq h1
    have e := (unhide V).trans (if_pos (.inl h1))
    rw [e]
    clear e
    clear h1
    go_enter Tryz.func28, Tryz.ntmps28
    go_wp2_with (first | (go_at_call 50; refine (keep_mem _ s c _ _ _ hw (unhide h0)).mono ?_; rintro e w6 ⟨rfl, hK⟩))
    go_ret
    exact ⟨rfl, hK⟩
  · have d1 : ((c.toNat : Int) == 34) = false := byte_ne h1
    by_cases h2 : c = 92
    · have d2 : ((c.toNat : Int) == 92) = true := byte_eq h2
      have e := (unhide V).trans (if_pos (.inr h2))
      rw [e]
      clear e
      clear h1 h2
      go_enter Tryz.func28, Tryz.ntmps28
      go_wp2_with (first | (go_at_call 50; refine (keep_mem _ s c _ _ _ hw (unhide h0)).mono ?_; rintro e w6 ⟨rfl, hK⟩))
      go_ret
      exact ⟨rfl, hK⟩
    · have d2 : ((c.toNat : Int) == 92) = false := byte_ne h2
      have e := (unhide V).trans (if_neg (fun h => h.elim h1 h2))
      rw [e]
      clear e
      clear h1 h2
      go_enter Tryz.func28, Tryz.ntmps28
      go_wp2
      go_ret
      exact ⟨rfl, unhide h0⟩
end Go.Proofs.YtjaohlnejkgkaaaGreatDoor
