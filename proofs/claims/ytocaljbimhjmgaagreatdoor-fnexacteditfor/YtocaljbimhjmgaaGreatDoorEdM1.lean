/- Edits: the specification's l10Uses. Made by gen_edm.py. -/
import Derived.Test.YtocaljbimhjmgaaGreatDoorEpA
import Derived.Test.YtocaljbimhjmgaaGreatDoorMmA
namespace Go.Proofs.YtocaljbimhjmgaaGreatDoor
open Go.RowKit
open Plain
set_option linter.unusedVariables false
set_option linter.unusedSimpArgs false
attribute [local go_sem] cell_of frozen_of

theorem nil_beqM {l : List UInt8} {b : Bool} (h : ([] == l) = b) : (l == []) = b := by cases l <;> simpa using h
set_option maxHeartbeats 4000000 in
set_option maxRecDepth 100000 in
theorem uses1 (box dst text : ByteArray) (n : Nat) (how bits since : Int) (a : Option Addr) (c : Nat) (w : World) (hs : n ≤ 1048576) :
    Calls Tryz.prog 42 #[.agg #[.int .i64 1, .string box, .string dst, .slice a n c, .int .i64 how, .int .i64 bits, .int .i64 since, .string text]] w fun x w' => x = .returned (.bool ((((((([] == dst.toList) && decide (n = 0)) && decide ((0 : Int) = how)) && decide ((0 : Int) = bits)) && decide ((0 : Int) = since)) && ([] == text.toList)))) ∧ Mem w w' [] := by
  have M := Mem.start w
  cases hdst : ([] == dst.toList) with
  | false =>
    have kdst := nil_beqM hdst
    go_enter Tryz.func42, Tryz.ntmps42
    go_wp2
    go_ret
    exact ⟨by simp, Mem.end⟩
  | true =>
  have kdst := nil_beqM hdst
  by_cases h : n = 0
  rotate_left
  · go_enter Tryz.func42, Tryz.ntmps42
    go_wp2
    go_ret
    exact ⟨by simp [h], Mem.end⟩
  subst h
  by_cases h : how = 0
  rotate_left
  · have h2 : ¬ 0 = how := fun e => h e.symm
    go_enter Tryz.func42, Tryz.ntmps42
    go_wp2
    go_ret
    exact ⟨by simp [h2], Mem.end⟩
  subst h
  by_cases h : bits = 0
  rotate_left
  · have h2 : ¬ 0 = bits := fun e => h e.symm
    go_enter Tryz.func42, Tryz.ntmps42
    go_wp2
    go_ret
    exact ⟨by simp [h2], Mem.end⟩
  subst h
  by_cases h : since = 0
  rotate_left
  · have h2 : ¬ 0 = since := fun e => h e.symm
    go_enter Tryz.func42, Tryz.ntmps42
    go_wp2
    go_ret
    exact ⟨by simp [h2], Mem.end⟩
  subst h
  cases htext : ([] == text.toList) with
  | false =>
    have ktext := nil_beqM htext
    go_enter Tryz.func42, Tryz.ntmps42
    go_wp2
    go_ret
    exact ⟨by simp, Mem.end⟩
  | true =>
  have ktext := nil_beqM htext
  go_enter Tryz.func42, Tryz.ntmps42
  go_wp2
  go_ret
  exact ⟨rfl, Mem.end⟩
set_option maxHeartbeats 4000000 in
set_option maxRecDepth 100000 in
theorem uses2 (box dst text : ByteArray) (n : Nat) (how bits since : Int) (a : Option Addr) (c : Nat) (w : World) (hs : n ≤ 1048576) :
    Calls Tryz.prog 42 #[.agg #[.int .i64 2, .string box, .string dst, .slice a n c, .int .i64 how, .int .i64 bits, .int .i64 since, .string text]] w fun x w' => x = .returned (.bool ((((((([] == dst.toList) && decide (n = 0)) && decide ((0 : Int) = how)) && decide ((0 : Int) = bits)) && decide ((0 : Int) = since)) && ([] == text.toList)))) ∧ Mem w w' [] := by
  have M := Mem.start w
  cases hdst : ([] == dst.toList) with
  | false =>
    have kdst := nil_beqM hdst
    go_enter Tryz.func42, Tryz.ntmps42
    go_wp2
    go_ret
    exact ⟨by simp, Mem.end⟩
  | true =>
  have kdst := nil_beqM hdst
  by_cases h : n = 0
  rotate_left
  · go_enter Tryz.func42, Tryz.ntmps42
    go_wp2
    go_ret
    exact ⟨by simp [h], Mem.end⟩
  subst h
  by_cases h : how = 0
  rotate_left
  · have h2 : ¬ 0 = how := fun e => h e.symm
    go_enter Tryz.func42, Tryz.ntmps42
    go_wp2
    go_ret
    exact ⟨by simp [h2], Mem.end⟩
  subst h
  by_cases h : bits = 0
  rotate_left
  · have h2 : ¬ 0 = bits := fun e => h e.symm
    go_enter Tryz.func42, Tryz.ntmps42
    go_wp2
    go_ret
    exact ⟨by simp [h2], Mem.end⟩
  subst h
  by_cases h : since = 0
  rotate_left
  · have h2 : ¬ 0 = since := fun e => h e.symm
    go_enter Tryz.func42, Tryz.ntmps42
    go_wp2
    go_ret
    exact ⟨by simp [h2], Mem.end⟩
  subst h
  cases htext : ([] == text.toList) with
  | false =>
    have ktext := nil_beqM htext
    go_enter Tryz.func42, Tryz.ntmps42
    go_wp2
    go_ret
    exact ⟨by simp, Mem.end⟩
  | true =>
  have ktext := nil_beqM htext
  go_enter Tryz.func42, Tryz.ntmps42
  go_wp2
  go_ret
  exact ⟨rfl, Mem.end⟩
set_option maxHeartbeats 4000000 in
set_option maxRecDepth 100000 in
theorem uses3 (box dst text : ByteArray) (n : Nat) (how bits since : Int) (a : Option Addr) (c : Nat) (w : World) (hs : n ≤ 1048576) :
    Calls Tryz.prog 42 #[.agg #[.int .i64 3, .string box, .string dst, .slice a n c, .int .i64 how, .int .i64 bits, .int .i64 since, .string text]] w fun x w' => x = .returned (.bool ((((([] == dst.toList) && decide (n = 0)) && decide ((0 : Int) = how)) && decide ((0 : Int) = since)))) ∧ Mem w w' [] := by
  have M := Mem.start w
  cases hdst : ([] == dst.toList) with
  | false =>
    have kdst := nil_beqM hdst
    go_enter Tryz.func42, Tryz.ntmps42
    go_wp2
    go_ret
    exact ⟨by simp, Mem.end⟩
  | true =>
  have kdst := nil_beqM hdst
  by_cases h : n = 0
  rotate_left
  · go_enter Tryz.func42, Tryz.ntmps42
    go_wp2
    go_ret
    exact ⟨by simp [h], Mem.end⟩
  subst h
  by_cases h : how = 0
  rotate_left
  · have h2 : ¬ 0 = how := fun e => h e.symm
    go_enter Tryz.func42, Tryz.ntmps42
    go_wp2
    go_ret
    exact ⟨by simp [h2], Mem.end⟩
  subst h
  by_cases h : since = 0
  rotate_left
  · have h2 : ¬ 0 = since := fun e => h e.symm
    go_enter Tryz.func42, Tryz.ntmps42
    go_wp2
    go_ret
    exact ⟨by simp [h2], Mem.end⟩
  subst h
  go_enter Tryz.func42, Tryz.ntmps42
  go_wp2
  go_ret
  exact ⟨rfl, Mem.end⟩
set_option maxHeartbeats 4000000 in
set_option maxRecDepth 100000 in
theorem uses4 (box dst text : ByteArray) (n : Nat) (how bits since : Int) (a : Option Addr) (c : Nat) (w : World) (hs : n ≤ 1048576) :
    Calls Tryz.prog 42 #[.agg #[.int .i64 4, .string box, .string dst, .slice a n c, .int .i64 how, .int .i64 bits, .int .i64 since, .string text]] w fun x w' => x = .returned (.bool ((([] == dst.toList) && ([] == text.toList)))) ∧ Mem w w' [] := by
  have M := Mem.start w
  cases hdst : ([] == dst.toList) with
  | false =>
    have kdst := nil_beqM hdst
    go_enter Tryz.func42, Tryz.ntmps42
    go_wp2
    go_ret
    exact ⟨by simp, Mem.end⟩
  | true =>
  have kdst := nil_beqM hdst
  cases htext : ([] == text.toList) with
  | false =>
    have ktext := nil_beqM htext
    go_enter Tryz.func42, Tryz.ntmps42
    go_wp2
    go_ret
    exact ⟨by simp, Mem.end⟩
  | true =>
  have ktext := nil_beqM htext
  go_enter Tryz.func42, Tryz.ntmps42
  go_wp2
  go_ret
  exact ⟨rfl, Mem.end⟩
set_option maxHeartbeats 4000000 in
set_option maxRecDepth 100000 in
theorem uses5 (box dst text : ByteArray) (n : Nat) (how bits since : Int) (a : Option Addr) (c : Nat) (w : World) (hs : n ≤ 1048576) :
    Calls Tryz.prog 42 #[.agg #[.int .i64 5, .string box, .string dst, .slice a n c, .int .i64 how, .int .i64 bits, .int .i64 since, .string text]] w fun x w' => x = .returned (.bool (((((([] == dst.toList) && decide ((0 : Int) = how)) && decide ((0 : Int) = bits)) && decide ((0 : Int) = since)) && ([] == text.toList)))) ∧ Mem w w' [] := by
  have M := Mem.start w
  cases hdst : ([] == dst.toList) with
  | false =>
    have kdst := nil_beqM hdst
    go_enter Tryz.func42, Tryz.ntmps42
    go_wp2
    go_ret
    exact ⟨by simp, Mem.end⟩
  | true =>
  have kdst := nil_beqM hdst
  by_cases h : how = 0
  rotate_left
  · have h2 : ¬ 0 = how := fun e => h e.symm
    go_enter Tryz.func42, Tryz.ntmps42
    go_wp2
    go_ret
    exact ⟨by simp [h2], Mem.end⟩
  subst h
  by_cases h : bits = 0
  rotate_left
  · have h2 : ¬ 0 = bits := fun e => h e.symm
    go_enter Tryz.func42, Tryz.ntmps42
    go_wp2
    go_ret
    exact ⟨by simp [h2], Mem.end⟩
  subst h
  by_cases h : since = 0
  rotate_left
  · have h2 : ¬ 0 = since := fun e => h e.symm
    go_enter Tryz.func42, Tryz.ntmps42
    go_wp2
    go_ret
    exact ⟨by simp [h2], Mem.end⟩
  subst h
  cases htext : ([] == text.toList) with
  | false =>
    have ktext := nil_beqM htext
    go_enter Tryz.func42, Tryz.ntmps42
    go_wp2
    go_ret
    exact ⟨by simp, Mem.end⟩
  | true =>
  have ktext := nil_beqM htext
  go_enter Tryz.func42, Tryz.ntmps42
  go_wp2
  go_ret
  exact ⟨rfl, Mem.end⟩
set_option maxHeartbeats 4000000 in
set_option maxRecDepth 100000 in
theorem uses6 (box dst text : ByteArray) (n : Nat) (how bits since : Int) (a : Option Addr) (c : Nat) (w : World) (hs : n ≤ 1048576) :
    Calls Tryz.prog 42 #[.agg #[.int .i64 6, .string box, .string dst, .slice a n c, .int .i64 how, .int .i64 bits, .int .i64 since, .string text]] w fun x w' => x = .returned (.bool ((((decide ((0 : Int) = how) && decide ((0 : Int) = bits)) && decide ((0 : Int) = since)) && ([] == text.toList)))) ∧ Mem w w' [] := by
  have M := Mem.start w
  by_cases h : how = 0
  rotate_left
  · have h2 : ¬ 0 = how := fun e => h e.symm
    go_enter Tryz.func42, Tryz.ntmps42
    go_wp2
    go_ret
    exact ⟨by simp [h2], Mem.end⟩
  subst h
  by_cases h : bits = 0
  rotate_left
  · have h2 : ¬ 0 = bits := fun e => h e.symm
    go_enter Tryz.func42, Tryz.ntmps42
    go_wp2
    go_ret
    exact ⟨by simp [h2], Mem.end⟩
  subst h
  by_cases h : since = 0
  rotate_left
  · have h2 : ¬ 0 = since := fun e => h e.symm
    go_enter Tryz.func42, Tryz.ntmps42
    go_wp2
    go_ret
    exact ⟨by simp [h2], Mem.end⟩
  subst h
  cases htext : ([] == text.toList) with
  | false =>
    have ktext := nil_beqM htext
    go_enter Tryz.func42, Tryz.ntmps42
    go_wp2
    go_ret
    exact ⟨by simp, Mem.end⟩
  | true =>
  have ktext := nil_beqM htext
  go_enter Tryz.func42, Tryz.ntmps42
  go_wp2
  go_ret
  exact ⟨rfl, Mem.end⟩
set_option maxHeartbeats 4000000 in
set_option maxRecDepth 100000 in
theorem uses7 (box dst text : ByteArray) (n : Nat) (how bits since : Int) (a : Option Addr) (c : Nat) (w : World) (hs : n ≤ 1048576) :
    Calls Tryz.prog 42 #[.agg #[.int .i64 7, .string box, .string dst, .slice a n c, .int .i64 how, .int .i64 bits, .int .i64 since, .string text]] w fun x w' => x = .returned (.bool ((((decide ((0 : Int) = how) && decide ((0 : Int) = bits)) && decide ((0 : Int) = since)) && ([] == text.toList)))) ∧ Mem w w' [] := by
  have M := Mem.start w
  by_cases h : how = 0
  rotate_left
  · have h2 : ¬ 0 = how := fun e => h e.symm
    go_enter Tryz.func42, Tryz.ntmps42
    go_wp2
    go_ret
    exact ⟨by simp [h2], Mem.end⟩
  subst h
  by_cases h : bits = 0
  rotate_left
  · have h2 : ¬ 0 = bits := fun e => h e.symm
    go_enter Tryz.func42, Tryz.ntmps42
    go_wp2
    go_ret
    exact ⟨by simp [h2], Mem.end⟩
  subst h
  by_cases h : since = 0
  rotate_left
  · have h2 : ¬ 0 = since := fun e => h e.symm
    go_enter Tryz.func42, Tryz.ntmps42
    go_wp2
    go_ret
    exact ⟨by simp [h2], Mem.end⟩
  subst h
  cases htext : ([] == text.toList) with
  | false =>
    have ktext := nil_beqM htext
    go_enter Tryz.func42, Tryz.ntmps42
    go_wp2
    go_ret
    exact ⟨by simp, Mem.end⟩
  | true =>
  have ktext := nil_beqM htext
  go_enter Tryz.func42, Tryz.ntmps42
  go_wp2
  go_ret
  exact ⟨rfl, Mem.end⟩
set_option maxHeartbeats 4000000 in
set_option maxRecDepth 100000 in
theorem uses8 (box dst text : ByteArray) (n : Nat) (how bits since : Int) (a : Option Addr) (c : Nat) (w : World) (hs : n ≤ 1048576) :
    Calls Tryz.prog 42 #[.agg #[.int .i64 8, .string box, .string dst, .slice a n c, .int .i64 how, .int .i64 bits, .int .i64 since, .string text]] w fun x w' => x = .returned (.bool (((((([] == dst.toList) && decide (n = 0)) && decide ((0 : Int) = how)) && decide ((0 : Int) = bits)) && ([] == text.toList)))) ∧ Mem w w' [] := by
  have M := Mem.start w
  cases hdst : ([] == dst.toList) with
  | false =>
    have kdst := nil_beqM hdst
    go_enter Tryz.func42, Tryz.ntmps42
    go_wp2
    go_ret
    exact ⟨by simp, Mem.end⟩
  | true =>
  have kdst := nil_beqM hdst
  by_cases h : n = 0
  rotate_left
  · go_enter Tryz.func42, Tryz.ntmps42
    go_wp2
    go_ret
    exact ⟨by simp [h], Mem.end⟩
  subst h
  by_cases h : how = 0
  rotate_left
  · have h2 : ¬ 0 = how := fun e => h e.symm
    go_enter Tryz.func42, Tryz.ntmps42
    go_wp2
    go_ret
    exact ⟨by simp [h2], Mem.end⟩
  subst h
  by_cases h : bits = 0
  rotate_left
  · have h2 : ¬ 0 = bits := fun e => h e.symm
    go_enter Tryz.func42, Tryz.ntmps42
    go_wp2
    go_ret
    exact ⟨by simp [h2], Mem.end⟩
  subst h
  cases htext : ([] == text.toList) with
  | false =>
    have ktext := nil_beqM htext
    go_enter Tryz.func42, Tryz.ntmps42
    go_wp2
    go_ret
    exact ⟨by simp, Mem.end⟩
  | true =>
  have ktext := nil_beqM htext
  go_enter Tryz.func42, Tryz.ntmps42
  go_wp2
  go_ret
  exact ⟨rfl, Mem.end⟩
end Go.Proofs.YtocaljbimhjmgaaGreatDoor
