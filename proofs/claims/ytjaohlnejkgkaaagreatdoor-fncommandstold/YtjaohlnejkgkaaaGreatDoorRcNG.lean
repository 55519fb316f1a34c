/- Commands: the program's reader: a step, some of the states. Made by gen_rci.py. -/
import Derived.Test.YtjaohlnejkgkaaaGreatDoorRcIA
namespace Go.Proofs.YtjaohlnejkgkaaaGreatDoor
open Go.RowKit
open Plain
set_option linter.unusedVariables false
set_option linter.unusedSimpArgs false
attribute [local go_sem] cell_of frozen_of
set_option maxHeartbeats 4000000 in
set_option maxRecDepth 100000 in
theorem next_mem_12 (b : Nat) (s : Cs) (c : UInt8) (w W : World) (hf : FineOn s) (ht : s.taken ≤ 301) (hst : s.st = 12) (h : Rd w W b s) :
    Calls Tryz.prog 28 #[.pointer (some ⟨b, 0, none⟩), .int .u8 (c.toNat : Int)] W fun e W' => BegAns b w (nextC s c) e W' := by
  have hw : s.word.length ≤ 1000 := by have := hf.word; omega
  have hws : s.words.length ≤ 1000 := by have := hf.words; omega
  have hr0 := hf.r0
  have hr : s.run ≤ 1000 := by have := hf.r1; omega
  have hl0 := hf.l0
  have hl := hf.l1
  have ht0 : 0 ≤ s.taken := by have := hf.t0; omega
  have ht1 : s.taken ≤ 1000 := by omega
  have h0 := hide h
  obtain ⟨aw, cw, ab, cb, M⟩ := h
  unfold rdL at M
  rw [hst] at M
  have V := hide (next_12 (s := s) (c := c) hst)
  by_cases h1 : c = 10
  · have d1 : ((c.toNat : Int) == 10) = true := byte_eq h1
    have e := (unhide V).trans (by rw [if_pos h1])
    rw [e]
    clear e
    clear h1
    go_enter Tryz.func28, Tryz.ntmps28
    go_wp2_with (first | (go_at_call 48; refine (when_any _ _ _).mono ?_; rintro e w1 ⟨rfl, hw1⟩; subst w1))
    go_ret
    exact ⟨rfl, unhide h0⟩
  · have d1 : ((c.toNat : Int) == 10) = false := byte_ne h1
    have e := (unhide V).trans (by rw [if_neg h1])
    rw [e]
    clear e
    clear h1
    go_enter Tryz.func28, Tryz.ntmps28
    go_wp2_with (first | (go_at_call 48; refine (when_any _ _ _).mono ?_; rintro e w1 ⟨rfl, hw1⟩; subst w1))
    go_ret
    exact ⟨rfl, unhide h0⟩
set_option maxHeartbeats 4000000 in
set_option maxRecDepth 100000 in
theorem next_mem_13 (b : Nat) (s : Cs) (c : UInt8) (w W : World) (hf : FineOn s) (ht : s.taken ≤ 301) (hst : s.st = 13) (h : Rd w W b s) :
    Calls Tryz.prog 28 #[.pointer (some ⟨b, 0, none⟩), .int .u8 (c.toNat : Int)] W fun e W' => BegAns b w (nextC s c) e W' := by
  have hw : s.word.length ≤ 1000 := by have := hf.word; omega
  have hws : s.words.length ≤ 1000 := by have := hf.words; omega
  have hr0 := hf.r0
  have hr : s.run ≤ 1000 := by have := hf.r1; omega
  have hl0 := hf.l0
  have hl := hf.l1
  have ht0 : 0 ≤ s.taken := by have := hf.t0; omega
  have ht1 : s.taken ≤ 1000 := by omega
  have h0 := hide h
  obtain ⟨aw, cw, ab, cb, M⟩ := h
  unfold rdL at M
  rw [hst] at M
  have V := hide (next_13 (s := s) (c := c) hst)
  by_cases h1 : s.left = 0
  · have d1 : (s.left == 0) = true := by rw [h1]; rfl
    have e := (unhide V).trans (if_pos h1)
    rw [e]
    clear e
    go_enter Tryz.func28, Tryz.ntmps28
    go_wp2_with (first | (go_at_call 47; refine (end_mem _ s c _ _ hws (unhide h0)).mono ?_; rintro e w6 ⟨rfl, hK⟩))
    go_ret
    exact ⟨rfl, hK⟩
  · have d1 : (s.left == 0) = false := beq_eq_false_iff_ne.2 h1
    have i1 : IntKind.i64.wrap (s.left - 1) = s.left - 1 := by rw [IntKind.wrap_i64]; omega
    have RF : Hid (∀ W', Mem w W' [.obj b 41 [.int .i64 13, .int .i64 s.taken, .slice aw s.words.length cw, .slice ab s.word.length cb, .int .i64 s.run, .int .i64 (s.left - 1)], .row aw s.words.length cw 9 1 (strs s.words), .row ab s.word.length cb 5 1 (bv s.word)] → Rd w W' b s.less) := fun W' M => ⟨aw, cw, ab, cb, by unfold rdL Cs.less; dsimp only; rw [hst]; exact M⟩
    have e := (unhide V).trans (if_neg h1)
    rw [e]
    clear e
    go_enter Tryz.func28, Tryz.ntmps28
    go_wp2_with (first | (go_at_call 50; refine (keep_mem _ s.less c _ _ _ hw (unhide RF _ Mem.end)).mono ?_; rintro e w6 ⟨rfl, hK⟩))
    go_ret
    exact ⟨rfl, hK⟩
end Go.Proofs.YtjaohlnejkgkaaaGreatDoor
