/- What a session's words tell to do: the program's small steps. -/
import Derived.Test.YtocaljbimhjmgaaGreatDoorEfPA
import Derived.Test.YtocaljbimhjmgaaGreatDoorRuA
namespace Go.Proofs.YtocaljbimhjmgaaGreatDoor
open Go.RowKit
open Plain
set_option linter.unusedVariables false
set_option linter.unusedSimpArgs false
attribute [local go_sem] cell_of frozen_of
set_option maxHeartbeats 4000000 in
set_option maxRecDepth 100000 in
theorem howNamed_any (x : List UInt8) (w : World) :
    Calls Tryz.prog 69 #[.string ⟨x.toArray⟩] w fun e w' => e = .returned (.int .i64 (howP x)) ∧ w' = w := by
  by_cases h1 : x = [61]
  · subst h1
    go_enter Tryz.func69, Tryz.ntmps69
    go_wp2
    go_ret
    exact ⟨rfl, rfl⟩
  · have f1 : (x == [61]) = false := by rw [beq_eq_false_iff_ne]; exact h1
    by_cases h2 : x = [43]
    · subst h2
      go_enter Tryz.func69, Tryz.ntmps69
      go_wp2
      go_ret
      exact ⟨rfl, rfl⟩
    · have f2 : (x == [43]) = false := by rw [beq_eq_false_iff_ne]; exact h2
      by_cases h3 : x = [45]
      · subst h3
        go_enter Tryz.func69, Tryz.ntmps69
        go_wp2
        go_ret
        exact ⟨rfl, rfl⟩
      · have f3 : (x == [45]) = false := by rw [beq_eq_false_iff_ne]; exact h3
        go_enter Tryz.func69, Tryz.ntmps69
        go_wp2
        go_ret
        exact ⟨by unfold howP; rw [if_neg h1, if_neg h2, if_neg h3]; rfl, rfl⟩
abbrev tabPc (g : Nat) : Pc := .obj g 57 [.string ⟨#[109, 97, 107, 101]⟩, .int .i64 1, .int .i64 1, .func (.func 47) #[] #[], .string ⟨#[100, 114, 111, 112]⟩, .int .i64 1, .int .i64 1, .func (.func 48) #[] #[], .string ⟨#[97, 100, 100]⟩, .int .i64 3, .int .i64 3, .func (.func 49) #[] #[], .string ⟨#[115, 116, 111, 114, 101]⟩, .int .i64 3, .int .i64 4, .func (.func 50) #[] #[], .string ⟨#[101, 120, 112, 117, 110, 103, 101]⟩, .int .i64 0, .int .i64 1, .func (.func 51) #[] #[], .string ⟨#[99, 111, 112, 121]⟩, .int .i64 2, .int .i64 2, .func (.func 52) #[] #[], .string ⟨#[109, 111, 118, 101]⟩, .int .i64 2, .int .i64 2, .func (.func 53) #[] #[]]
set_option maxHeartbeats 4000000 in
set_option maxRecDepth 100000 in
theorem editCommands_mem (w : World) :
    Calls Tryz.prog 22 #[] w fun e w' => ∃ g, e = .returned (.slice (some ⟨g, 0, none⟩) 7 7) ∧ Mem w w' [tabPc g] := by
  have M := Mem.start w
  go_enter Tryz.func22, Tryz.ntmps22
  go_wp2
  refine bodyPost_ret (by simp [results, Tryz.results22, go_sem]; try rfl) rfl ?_
  exact ⟨_, rfl, Mem.end⟩
set_option maxHeartbeats 4000000 in
set_option maxRecDepth 100000 in
theorem fits_any (x : List UInt8 × Int × Int) (a : Option Addr) (c : Nat) (l : List (List UInt8)) (w : World) (hl : l.length ≤ 1048576) (h : SeeW w a l) :
    Calls Tryz.prog 23 #[.agg #[.string ⟨x.1.toArray⟩, .int .i64 x.2.1, .int .i64 x.2.2], .slice a l.length c] w fun e w' => e = .returned (.bool (fitW x l)) ∧ Mem w w' [] := by
  obtain ⟨nm, lo, hi⟩ := x
  have M := Mem.start w
  cases l with
  | nil =>
    go_enter Tryz.func23, Tryz.ntmps23
    go_wp2
    refine mb 22 (fun M => ?_)
    refine tm 0 5 ?_; refine tm 1 6 ?_; refine tm 2 7 ?_; refine tm 3 8 ?_; refine ts 4 9 ?_; refine ts 5 10 ?_; refine ts 6 11 ?_; refine ts 7 12 ?_; refine ts 8 13 ?_; refine ts 9 14 ?_; refine tm 10 15 ?_; refine tm 11 16 ?_; refine ts 12 17 ?_; refine ts 13 18 ?_; refine ts 14 19 ?_; refine ts 15 20 ?_; refine ts 16 21 ?_; refine ts 17 22 ?_; refine ts 18 23 ?_; refine ts 19 24 ?_; refine tm 20 25 ?_; refine tm 21 4 ?_
    refine td ?_
    go_wp2
    go_ret
    exact ⟨rfl, Mem.end⟩
  | cons x r =>
    obtain ⟨g, rfl, c0⟩ := h 0 x rfl
    clear h
    have i0 : (0 : Int) < ((r.length + 1 : Nat) : Int) := by omega
    have i1 : 0 < r.length + 1 := by omega
    rw [show (x :: r).length = r.length + 1 from rfl] at hl ⊢
    by_cases hx : x = nm
    · subst hx
      have e1 : IntKind.i64.wrap (((r.length + 1 : Nat) : Int) - 1) = (r.length : Int) := by rw [IntKind.wrap_i64]; omega
      have e2 : IntKind.i64.wrap (r.length : Int) = (r.length : Int) := by rw [IntKind.wrap_i64]; omega
      have W1 := hide (fun W => impl_within_any (r.length : Int) lo hi W)
      go_enter Tryz.func23, Tryz.ntmps23
      go_wp2
      refine mb 22 (fun M => ?_)
      refine tm 0 5 ?_; refine tm 1 6 ?_; refine tm 2 7 ?_; refine tm 3 8 ?_; refine tm 4 9 ?_; refine tm 5 10 ?_; refine tm 6 11 ?_; refine tm 7 12 ?_; refine tm 8 13 ?_; refine tm 9 14 ?_; refine tm 10 15 ?_; refine tm 11 16 ?_; refine tm 12 17 ?_; refine tm 13 18 ?_; refine tm 14 19 ?_; refine tm 15 20 ?_; refine tm 16 21 ?_; refine tm 17 22 ?_; refine tm 18 23 ?_
      refine tc 19 24 (unhide W1 _) ?_
      rintro e w6 ⟨rfl, rfl⟩
      refine tce ?_
      refine tm 20 25 ?_; refine tm 21 4 ?_
      refine td ?_
      go_wp2
      go_ret
      exact ⟨by unfold fitW; simp, Mem.end⟩
    · have f1 : (x == nm) = false := by rw [beq_eq_false_iff_ne]; exact hx
      go_enter Tryz.func23, Tryz.ntmps23
      go_wp2
      refine mb 22 (fun M => ?_)
      refine tm 0 5 ?_; refine tm 1 6 ?_; refine tm 2 7 ?_; refine tm 3 8 ?_; refine tm 4 9 ?_; refine tm 5 10 ?_; refine tm 6 11 ?_; refine tm 7 12 ?_; refine tm 8 13 ?_; refine tm 9 14 ?_; refine tm 10 15 ?_; refine tm 11 16 ?_; refine ts 12 17 ?_; refine ts 13 18 ?_; refine ts 14 19 ?_; refine ts 15 20 ?_; refine ts 16 21 ?_; refine ts 17 22 ?_; refine ts 18 23 ?_; refine ts 19 24 ?_; refine tm 20 25 ?_; refine tm 21 4 ?_
      refine td ?_
      go_wp2
      go_ret
      exact ⟨by unfold fitW; simp [hx], Mem.end⟩
end Go.Proofs.YtocaljbimhjmgaaGreatDoor
