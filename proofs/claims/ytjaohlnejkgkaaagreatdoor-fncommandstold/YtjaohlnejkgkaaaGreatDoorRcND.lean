/- Commands: the program's reader: a step, some of the states. Made by gen_rci.py. -/
import Derived.Test.YtjaohlnejkgkaaaGreatDoorRcIA
namespace Go.Proofs.YtjaohlnejkgkaaaGreatDoor
open Go.RowKit
open Plain
set_option linter.unusedVariables false
set_option linter.unusedSimpArgs false
attribute [local go_sem] cell_of frozen_of
set_option maxHeartbeats 4000000 in
set_option maxRecDepth 100000 in
theorem next_mem_7 (b : Nat) (s : Cs) (c : UInt8) (w W : World) (hf : FineOn s) (ht : s.taken ≤ 301) (hst : s.st = 7) (h : Rd w W b s) :
    Calls Tryz.prog 28 #[.pointer (some ⟨b, 0, none⟩), .int .u8 (c.toNat : Int)] W fun e W' => BegAns b w (nextC s c) e W' := by
  have hw : s.word.length ≤ 1000 := by have := hf.word; omega
  have hws : s.words.length ≤ 1000 := by have := hf.words; omega
  have hr0 := hf.r0
  have hr : s.run ≤ 1000 := by have := hf.r1; omega
  have hl0 := hf.l0
  have hl := hf.l1
  have ht0 : 0 ≤ s.taken := by have := hf.t0; omega
  have ht1 : s.taken ≤ 1000 := by omega
  have h0 := hide h
  obtain ⟨aw, cw, ab, cb, M⟩ := h
  unfold rdL at M
  rw [hst] at M
  have V := hide (next_7 (s := s) (c := c) hst)
  have QB := hide (fun W => impl_byte c W)
  cases hp : plB c with
  | true =>
    rw [hp] at QB
    have RF : Hid (∀ W', Mem w W' [.obj b 41 [.int .i64 7, .int .i64 s.taken, .slice aw s.words.length cw, .slice ab s.word.length cb, .int .i64 0, .int .i64 s.left], .row aw s.words.length cw 9 1 (strs s.words), .row ab s.word.length cb 5 1 (bv s.word)] → Rd w W' b s.anew) := fun W' M => ⟨aw, cw, ab, cb, by unfold rdL Cs.anew; dsimp only; rw [hst]; exact M⟩
    have e := (unhide V).trans (if_pos hp)
    rw [e]
    clear e
    clear hp
    go_enter Tryz.func28, Tryz.ntmps28
    go_wp2_with (first | (go_at_call 51; refine (unhide QB _).mono ?_; rintro e w1 ⟨rfl, hw1⟩; subst w1) | (go_at_call 52; refine (list_mem _ s.anew c _ _ hw (Int.le_refl 0) (show (0 : Int) ≤ 1000 by decide) (unhide RF _ Mem.end)).mono ?_; rintro e w6 ⟨rfl, hK⟩))
    go_ret
    exact ⟨rfl, hK⟩
  | false =>
    rw [hp] at QB
    have e := (unhide V).trans (if_neg (by rw [hp]; decide))
    rw [e]
    clear e
    clear hp
    go_enter Tryz.func28, Tryz.ntmps28
    go_wp2_with (first | (go_at_call 51; refine (unhide QB _).mono ?_; rintro e w1 ⟨rfl, hw1⟩; subst w1))
    go_ret
    exact ⟨rfl, unhide h0⟩
set_option maxHeartbeats 4000000 in
set_option maxRecDepth 100000 in
theorem next_mem_8 (b : Nat) (s : Cs) (c : UInt8) (w W : World) (hf : FineOn s) (ht : s.taken ≤ 301) (hst : s.st = 8) (h : Rd w W b s) :
    Calls Tryz.prog 28 #[.pointer (some ⟨b, 0, none⟩), .int .u8 (c.toNat : Int)] W fun e W' => BegAns b w (nextC s c) e W' := by
  have hw : s.word.length ≤ 1000 := by have := hf.word; omega
  have hws : s.words.length ≤ 1000 := by have := hf.words; omega
  have hr0 := hf.r0
  have hr : s.run ≤ 1000 := by have := hf.r1; omega
  have hl0 := hf.l0
  have hl := hf.l1
  have ht0 : 0 ≤ s.taken := by have := hf.t0; omega
  have ht1 : s.taken ≤ 1000 := by omega
  have h0 := hide h
  obtain ⟨aw, cw, ab, cb, M⟩ := h
  unfold rdL at M
  rw [hst] at M
  have V := hide (next_8 (s := s) (c := c) hst)
  have e := unhide V
  rw [e]
  clear e
  go_enter Tryz.func28, Tryz.ntmps28
  go_wp2_with (first | (go_at_call 52; refine (list_mem _ s c _ _ hw hr0 hr (unhide h0)).mono ?_; rintro e w6 ⟨rfl, hK⟩))
  go_ret
  exact ⟨rfl, hK⟩
end Go.Proofs.YtjaohlnejkgkaaaGreatDoor
