/- What a session's words tell to do: the specification's small steps and l16Here. Made by gen_efs.py. -/
import Derived.Test.YtocaljbimhjmgaaGreatDoorEfPA
import Derived.Test.YtocaljbimhjmgaaGreatDoorMmA
import Derived.Deep.Cut
namespace Go.Proofs.YtocaljbimhjmgaaGreatDoor
open Go.RowKit
open Plain
set_option linter.unusedVariables false
set_option linter.unusedSimpArgs false
attribute [local go_sem] cell_of frozen_of
def SameE (h R : Ed × Bool) : Prop := h = R ∨ ((h.2 && okE h.1) = false ∧ (R.2 && okE R.1) = false)
theorem same_0 {box d t : ByteArray} {s : List Rg} {h b si : Int} {ok : Bool} {l : List (List UInt8)} (q : rawE box l = (e0, false)) : SameE (⟨0, box, d, s, h, b, si, t⟩, ok) (rawE box l) :=
  .inr ⟨by rw [okE_no rfl, Bool.and_false], by rw [q]; rfl⟩
theorem Mem.row1s {w W : World} {L K : List Pc} {b : Nat} {f : Pc → List Pc} [M : Mem w W L] [h : InL L (.obj b 87 [.int .i64 1, .int .i64 9999]) f] [k : Pick (f (rowRg (some ⟨b, 0, none⟩) 1 allR)) K] : Mem w W K := by
  have hp := M.get (.obj b 87 [.int .i64 1, .int .i64 9999])
  have := M.turn (p := .obj b 87 [.int .i64 1, .int .i64 9999]) (q := rowRg (some ⟨b, 0, none⟩) 1 allR) (g_self W _) ⟨by simp [allR, rgs, rgl], .inr ⟨b, 1, #[.int .i64 1, .int .i64 9999], rfl, hp.1, hp.2, by simp [allR, rgs, rgl, maxLen]⟩⟩ (.inl rfl)
  exact Mem.fin
set_option maxHeartbeats 4000000 in
set_option maxRecDepth 100000 in
theorem l16All_any (w : World) :
    Calls Tryz.prog 36 #[] w fun e w' => ∃ a c, e = .returned (.slice a 1 c) ∧ Mem w w' [rowRg a c allR] := by
  have M := Mem.start w
  go_enter Tryz.func36, Tryz.ntmps36
  go_wp2
  go_ret
  exact ⟨some ⟨w.heap.size, 0, none⟩, 1, rfl, Mem.row1s (b := w.heap.size)⟩
set_option maxHeartbeats 4000000 in
set_option maxRecDepth 100000 in
theorem l16How_any (x : List UInt8) (w : World) :
    Calls Tryz.prog 38 #[.string ⟨x.toArray⟩] w fun e w' => e = .returned (.int .i64 (howP x)) ∧ w' = w := by
  by_cases h1 : x = [61]
  · subst h1
    go_enter Tryz.func38, Tryz.ntmps38
    go_wp2
    go_ret
    exact ⟨rfl, rfl⟩
  · have f1 : (x == [61]) = false := by rw [beq_eq_false_iff_ne]; exact h1
    by_cases h2 : x = [43]
    · subst h2
      go_enter Tryz.func38, Tryz.ntmps38
      go_wp2
      go_ret
      exact ⟨rfl, rfl⟩
    · have f2 : (x == [43]) = false := by rw [beq_eq_false_iff_ne]; exact h2
      by_cases h3 : x = [45]
      · subst h3
        go_enter Tryz.func38, Tryz.ntmps38
        go_wp2
        go_ret
        exact ⟨rfl, rfl⟩
      · have f3 : (x == [45]) = false := by rw [beq_eq_false_iff_ne]; exact h3
        go_enter Tryz.func38, Tryz.ntmps38
        go_wp2
        go_ret
        exact ⟨by unfold howP; rw [if_neg h1, if_neg h2, if_neg h3]; rfl, rfl⟩
theorem small_h {k : Int} {box d : ByteArray} {s : List Rg} {h b si : Int} (hb : box.size ≤ 1048576) (hd : d.size ≤ 1048576) (hs : s.length ≤ 1048576) : SmallEd 1048576 ⟨k, box, d, s, h, b, si, nb⟩ := ⟨hb, hd, hs, (by decide : nb.size ≤ 1048576)⟩
/-- What the specification tells of the words of one who looks. -/
def HereC (box : ByteArray) (xv xm : Int) (vu : Value) (l : List (List UInt8)) : Prop :=
  ∀ (a : Option Addr) (c : Nat) (w : World), SeeW w a l → Calls Tryz.prog 19 #[.agg #[.bool true, .string box, .int .i64 xv, vu, .int .i64 xm], .slice a l.length c] w fun e w' =>
    ∃ (k : Int) (d : ByteArray) (s : List Rg) (h b si : Int) (ok : Bool) (a' : Option Addr) (c' : Nat), e = .returned (.tuple #[edV ⟨k, box, d, s, h, b, si, nb⟩ (.slice a' s.length c'), .bool ok]) ∧ Mem w w' [rowRg a' c' s] ∧ SmallEd 1048576 ⟨k, box, d, s, h, b, si, nb⟩ ∧ SameE (⟨k, box, d, s, h, b, si, nb⟩, ok) (rawE box l)
/-- None of the words that tell of a box by its name. -/
def NoName (n : List UInt8) (k : Nat) : Prop := (n = mkW → k ≠ 1) ∧ (n = drW → k ≠ 1) ∧ (n = adW → k ≠ 3)
end Go.Proofs.YtocaljbimhjmgaaGreatDoor
