/- Commands: the program's reader: a step, some of the states. Made by gen_rci.py. -/
import Derived.Test.YtjaohlnejkgkaaaGreatDoorRcIA
namespace Go.Proofs.YtjaohlnejkgkaaaGreatDoor
open Go.RowKit
open Plain
set_option linter.unusedVariables false
set_option linter.unusedSimpArgs false
attribute [local go_sem] cell_of frozen_of
set_option maxHeartbeats 4000000 in
set_option maxRecDepth 100000 in
theorem next_mem_0 (b : Nat) (s : Cs) (c : UInt8) (w W : World) (hf : FineOn s) (ht : s.taken ≤ 301) (hst : s.st = 0) (h : Rd w W b s) :
    Calls Tryz.prog 28 #[.pointer (some ⟨b, 0, none⟩), .int .u8 (c.toNat : Int)] W fun e W' => BegAns b w (nextC s c) e W' := by
  have hw : s.word.length ≤ 1000 := by have := hf.word; omega
  have hws : s.words.length ≤ 1000 := by have := hf.words; omega
  have hr0 := hf.r0
  have hr : s.run ≤ 1000 := by have := hf.r1; omega
  have hl0 := hf.l0
  have hl := hf.l1
  have ht0 : 0 ≤ s.taken := by have := hf.t0; omega
  have ht1 : s.taken ≤ 1000 := by omega
  have h0 := hide h
  obtain ⟨aw, cw, ab, cb, M⟩ := h
  unfold rdL at M
  rw [hst] at M
  have V := hide (next_0 (s := s) (c := c) hst)
  have e := unhide V
  rw [e]
  clear e
  go_enter Tryz.func28, Tryz.ntmps28
  go_wp2_with (first | (go_at_call 45; refine (begin_mem _ s c _ _ (unhide h0)).mono ?_; rintro e w6 ⟨rfl, hK⟩))
  go_ret
  exact ⟨rfl, hK⟩
set_option maxHeartbeats 4000000 in
set_option maxRecDepth 100000 in
theorem next_mem_1 (b : Nat) (s : Cs) (c : UInt8) (w W : World) (hf : FineOn s) (ht : s.taken ≤ 301) (hst : s.st = 1) (h : Rd w W b s) :
    Calls Tryz.prog 28 #[.pointer (some ⟨b, 0, none⟩), .int .u8 (c.toNat : Int)] W fun e W' => BegAns b w (nextC s c) e W' := by
  have hw : s.word.length ≤ 1000 := by have := hf.word; omega
  have hws : s.words.length ≤ 1000 := by have := hf.words; omega
  have hr0 := hf.r0
  have hr : s.run ≤ 1000 := by have := hf.r1; omega
  have hl0 := hf.l0
  have hl := hf.l1
  have ht0 : 0 ≤ s.taken := by have := hf.t0; omega
  have ht1 : s.taken ≤ 1000 := by omega
  have h0 := hide h
  obtain ⟨aw, cw, ab, cb, M⟩ := h
  unfold rdL at M
  rw [hst] at M
  have V := hide (next_1 (s := s) (c := c) hst)
  cases hm : s.may c with
  | true =>
    have e := (unhide V).trans (if_pos hm)
    rw [e]
    clear e
    go_enter Tryz.func28, Tryz.ntmps28
    go_wp2_with (first | (go_at_call 46; refine (takes_mem _ s c _ _ hw hr0 hr (unhide h0)).mono ?_; rw [hm]; rintro e w5 ⟨rfl, h5⟩))
    go_ret
    exact ⟨rfl, h5⟩
  | false =>
    have hk : s.takes c = s := by unfold Cs.takes; rw [hm]; rfl
    have e := (unhide V).trans (if_neg (by rw [hm]; decide))
    rw [e]
    clear e
    go_enter Tryz.func28, Tryz.ntmps28
    go_wp2_with (first | (go_at_call 46; refine (takes_mem _ s c _ _ hw hr0 hr (unhide h0)).mono ?_; rw [hm, hk]; rintro e w5 ⟨rfl, h5⟩) | (go_at_call 47; refine (end_mem _ s c _ _ hws h5).mono ?_; rintro e w6 ⟨rfl, hK⟩))
    go_ret
    exact ⟨rfl, hK⟩
set_option maxHeartbeats 4000000 in
set_option maxRecDepth 100000 in
theorem next_mem_2 (b : Nat) (s : Cs) (c : UInt8) (w W : World) (hf : FineOn s) (ht : s.taken ≤ 301) (hst : s.st = 2) (h : Rd w W b s) :
    Calls Tryz.prog 28 #[.pointer (some ⟨b, 0, none⟩), .int .u8 (c.toNat : Int)] W fun e W' => BegAns b w (nextC s c) e W' := by
  have hw : s.word.length ≤ 1000 := by have := hf.word; omega
  have hws : s.words.length ≤ 1000 := by have := hf.words; omega
  have hr0 := hf.r0
  have hr : s.run ≤ 1000 := by have := hf.r1; omega
  have hl0 := hf.l0
  have hl := hf.l1
  have ht0 : 0 ≤ s.taken := by have := hf.t0; omega
  have ht1 : s.taken ≤ 1000 := by omega
  have h0 := hide h
  obtain ⟨aw, cw, ab, cb, M⟩ := h
  unfold rdL at M
  rw [hst] at M
  have V := hide (next_2 (s := s) (c := c) hst)
  have e := unhide V
  rw [e]
  clear e
  go_enter Tryz.func28, Tryz.ntmps28
  go_wp2_with (first | (go_at_call 47; refine (end_mem _ s c _ _ hws (unhide h0)).mono ?_; rintro e w6 ⟨rfl, hK⟩))
  go_ret
  exact ⟨rfl, hK⟩
set_option maxHeartbeats 4000000 in
set_option maxRecDepth 100000 in
theorem next_mem_3 (b : Nat) (s : Cs) (c : UInt8) (w W : World) (hf : FineOn s) (ht : s.taken ≤ 301) (hst : s.st = 3) (h : Rd w W b s) :
    Calls Tryz.prog 28 #[.pointer (some ⟨b, 0, none⟩), .int .u8 (c.toNat : Int)] W fun e W' => BegAns b w (nextC s c) e W' := by
  have hw : s.word.length ≤ 1000 := by have := hf.word; omega
  have hws : s.words.length ≤ 1000 := by have := hf.words; omega
  have hr0 := hf.r0
  have hr : s.run ≤ 1000 := by have := hf.r1; omega
  have hl0 := hf.l0
  have hl := hf.l1
  have ht0 : 0 ≤ s.taken := by have := hf.t0; omega
  have ht1 : s.taken ≤ 1000 := by omega
  have h0 := hide h
  obtain ⟨aw, cw, ab, cb, M⟩ := h
  unfold rdL at M
  rw [hst] at M
  have V := hide (next_3 (s := s) (c := c) hst)
  by_cases h1 : c = 10
  · have d1 : ((c.toNat : Int) == 10) = true := byte_eq h1
    have e := (unhide V).trans (by rw [if_pos h1])
    rw [e]
    clear e
    clear h1
    go_enter Tryz.func28, Tryz.ntmps28
    go_wp2_with (first | (go_at_call 48; refine (when_any _ _ _).mono ?_; rintro e w1 ⟨rfl, hw1⟩; subst w1))
    go_ret
    exact ⟨rfl, unhide h0⟩
  · have d1 : ((c.toNat : Int) == 10) = false := byte_ne h1
    have e := (unhide V).trans (by rw [if_neg h1])
    rw [e]
    clear e
    clear h1
    go_enter Tryz.func28, Tryz.ntmps28
    go_wp2_with (first | (go_at_call 48; refine (when_any _ _ _).mono ?_; rintro e w1 ⟨rfl, hw1⟩; subst w1))
    go_ret
    exact ⟨rfl, unhide h0⟩
end Go.Proofs.YtjaohlnejkgkaaaGreatDoor
