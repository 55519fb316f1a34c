/- Mails: the program's BodyOf, PartOf. -/
import Derived.Test.YtmkjocamknhcbaaDoorMailI
import Derived.Test.YtmkjocamknhcbaaDoorCloneI
namespace Go.Proofs.YtmkjocamknhcbaaDoor
open Go.RowKit
open Plain
set_option linter.unusedVariables false

namespace Plain
theorem bodyFrom_len : ∀ (l : List UInt8) (s : Bool), (bodyFrom s l).length ≤ l.length := by
  intro l
  induction l with
  | nil => intro s; simp [bodyFrom]
  | cons b r ih =>
    intro s
    rw [bodyFrom]
    split
    · split
      · simp
      · have := ih true; simp; omega
    · have := ih false; simp; omega
theorem heads_len : ∀ (l : List UInt8) (s : Bool), (headsFrom s l).length ≤ l.length := by
  intro l
  induction l with
  | nil => intro s; simp [headsFrom]
  | cons b r ih =>
    intro s
    rw [headsFrom]
    split
    · split
      · simp
      · have := ih true; simp; omega
    · have := ih false; simp; omega
theorem partL_len (t : List UInt8) (p n : Int) : (partL t p n).length ≤ t.length := by
  unfold partL
  split
  · simp
  · simp; omega
end Plain

set_option maxHeartbeats 2000000 in
theorem impl_BodyOf_any (s : ByteArray) (w : World) (hs : s.size ≤ 1048576) :
    Calls Tryd.prog 10 #[.string s] w fun e w' => e = .returned (.string ⟨(bodyL s.data.toList).toArray⟩) ∧ Below w.heap.size w w' := by
  have C := hide (cutMail_any s w hs)
  have L : (⟨(bodyL s.data.toList).toArray⟩ : ByteArray).size ≤ 281474976710656 := by
    have := bodyFrom_len s.data.toList true
    show (bodyL s.data.toList).length ≤ _
    have h2 : s.data.toList.length = s.size := rfl
    unfold bodyL
    omega
  have K := hide (fun W => Clone_any ⟨(bodyL s.data.toList).toArray⟩ W L)
  clear L
  generalize (⟨(bodyL s.data.toList).toArray⟩ : ByteArray) = Y at *
  generalize (⟨(headsFrom true s.data.toList).toArray⟩ : ByteArray) = X at *
  go_enter Tryd.func10, Tryd.ntmps10
  go_wp2_with fail
  refine (unhide C).mono ?_
  rintro e w1 ⟨rfl, hb⟩
  have B := hide hb
  clear hb
  go_wp2_with fail
  refine (unhide K _).mono ?_
  rintro e w2 ⟨rfl, hb⟩
  have B2 := hide ((unhide B).trans (hb.mono (unhide B).size))
  clear hb
  go_wp2
  go_ret
  exact ⟨rfl, unhide B2⟩

set_option maxHeartbeats 2000000 in
set_option maxRecDepth 100000 in
theorem impl_PartOf_any (s : ByteArray) (p n : Int) (w : World) (hs : s.size ≤ 1048576) (hn1 : n ≤ 9223372036854775807) :
    Calls Tryd.prog 14 #[.string s, .int .i64 p, .int .i64 n] w fun e w' => e = .returned (.string ⟨(partL s.data.toList p n).toArray⟩) ∧ Below w.heap.size w w' := by
  by_cases h1 : p < 0
  · have V := hide (partL_no (t := s.data.toList) (n := n) (.inl h1))
    have d1 : decide (p < 0) = true := by simpa using h1
    go_enter Tryd.func14, Tryd.ntmps14
    go_wp2
    go_ret
    exact ⟨by rw [unhide V]; rfl, Below.refl _ _⟩
  · have d1 : decide (p < 0) = false := by simpa using h1
    by_cases h2 : n < 0
    · have V := hide (partL_no (t := s.data.toList) (p := p) (.inr (.inl h2)))
      have d2 : decide (n < 0) = true := by simpa using h2
      go_enter Tryd.func14, Tryd.ntmps14
      go_wp2
      go_ret
      exact ⟨by rw [unhide V]; rfl, Below.refl _ _⟩
    · have d2 : decide (n < 0) = false := by simpa using h2
      by_cases h3 : (s.size : Int) < p
      · have V := hide (partL_no (t := s.data.toList) (p := p) (n := n) (.inr (.inr h3)))
        have d3 : decide ((s.size : Int) < p) = true := by simpa using h3
        go_enter Tryd.func14, Tryd.ntmps14
        go_wp2
        go_ret
        exact ⟨by rw [unhide V]; rfl, Below.refl _ _⟩
      · have d3 : decide ((s.size : Int) < p) = false := by simpa using h3
        have V := hide (partL_in (t := s.data.toList) (p := p) (n := n) (fun h => by rcases h with h | h | h; exact h1 h; exact h2 h; exact h3 h))
        obtain ⟨P, rfl⟩ : ∃ P : Nat, p = (P : Int) := ⟨p.toNat, by omega⟩
        obtain ⟨N, rfl⟩ : ∃ N : Nat, n = (N : Int) := ⟨n.toNat, by omega⟩
        rw [Int.toNat_natCast, Int.toNat_natCast] at V
        have hP : P ≤ s.size := by omega
        obtain ⟨M, hM⟩ : ∃ M : Nat, M = min N (s.size - P) := ⟨_, rfl⟩
        have m1 : min (N : Int) ((s.size : Int) - (P : Int)) = (M : Int) := by omega
        have hPM : P + M ≤ s.size := by omega
        have E := hide (cut_bytes s P (P + M))
        rw [show P + M - P = M by omega] at E
        have V2 : Hid ((s.data.toList.drop P).take N = (s.data.toList.drop P).take M) := by
          show _ = _
          by_cases h4 : N ≤ s.size - P
          · rw [hM, Nat.min_eq_left h4]
          · rw [hM, Nat.min_eq_right (by omega), List.take_of_length_le (by rw [List.length_drop]; show s.size - P ≤ N; omega), List.take_of_length_le (by rw [List.length_drop]; exact Nat.le_refl _)]
        have MH := hide hM
        clear h1 h2 h3 hM
        have x1 : IntKind.i64.wrap ((s.size : Int) - (P : Int)) = (s.size : Int) - (P : Int) := by rw [IntKind.wrap_i64]; omega
        have x2 : IntKind.i64.wrap ((P : Int) + (M : Int)) = (P : Int) + (M : Int) := by rw [IntKind.wrap_i64]; omega
        have i1 : (0 : Int) ≤ (P : Int) := by omega
        have i2 : (P : Int) ≤ (P : Int) + (M : Int) := by omega
        have i3 : (P : Int) + (M : Int) ≤ (s.size : Int) := by omega
        have L : Hid ((s.extract P (P + M)).size ≤ 281474976710656) := by
          show (s.extract P (P + M)).size ≤ 281474976710656
          simp; omega
        go_enter Tryd.func14, Tryd.ntmps14
        go_wp2_with fail
        refine (Clone_any _ _ (unhide L)).mono ?_
        rintro e w1 ⟨rfl, hb⟩
        have B := hide hb
        clear hb
        go_wp2
        go_ret
        exact ⟨by rw [unhide V, unhide V2, ← unhide E]; rfl, unhide B⟩
end Go.Proofs.YtmkjocamknhcbaaDoor
