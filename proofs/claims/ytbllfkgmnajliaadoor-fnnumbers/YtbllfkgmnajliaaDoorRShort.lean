/- Short texts read: what both ReadShort answer. -/
import Derived.Test.YtbllfkgmnajliaaDoorRead
import Derived.Test.YtbllfkgmnajliaaDoorShelf
namespace Go.Proofs.YtbllfkgmnajliaaDoor
open Go.RowKit
open Plain
set_option linter.unusedVariables false

theorem impl_ReadVar_some {s : ByteArray} {A n q : Nat} (hs : s.size ≤ 1048576) (hA : A ≤ s.size) (h : rvV A (rdL 5 [] (s.data.toList.drop A)) = .tuple #[.int .i64 n, .int .i64 q, .bool true]) (w : World) :
    Calls Tryd.prog 7 #[.string s, .int .i64 A] w fun e w' => e = .returned (.tuple #[.int .i64 n, .int .i64 q, .bool true]) ∧ w = w' := by
  rw [← h]; exact impl_ReadVar_in s A w hs hA

theorem rv_some {s : ByteArray} {A : Nat} (hA : A ≤ s.size) : rvV A (rdL 5 [] (s.data.toList.drop A)) = .tuple #[.int .i64 0, .int .i64 0, .bool false] ∨
    ∃ n q : Nat, rvV A (rdL 5 [] (s.data.toList.drop A)) = .tuple #[.int .i64 n, .int .i64 q, .bool true] ∧ n ≤ 1000000000 ∧ q ≤ s.size := by
  cases hr : rdL 5 [] (s.data.toList.drop A) with
  | none => exact .inl rfl
  | some p =>
    obtain ⟨n, d⟩ := p
    have h := rd_le hr
    simp at h
    have e : s.size = s.data.size := rfl
    exact .inr ⟨n, A + d, rfl, by omega, by omega⟩

/-- The answer where a number n stands ahead of the place q. -/
def rsV (s : ByteArray) (n q : Nat) : Value :=
  if n ≤ 20000 ∧ n + q ≤ s.size then .tuple #[.string (s.extract q (q + n)), .int .i64 ((q : Int) + n), .bool true] else .tuple #[.string ⟨#[]⟩, .int .i64 0, .bool false]

theorem Clone_any (s : ByteArray) (w : World) (h : s.size ≤ 281474976710656) :
    Calls Tryd.prog 23 #[.string s] w fun e w' => e = .returned (.string s) ∧ Below w.heap.size w w' := by
  go_enter Tryd.func23, Tryd.ntmps23
  go_wp2_with (go_at_call 27; refine (Tryd.stringslite_Clone s _ h).mono ?_; rintro e w1 ⟨rfl, hb⟩)
  go_ret
  exact ⟨rfl, by assumption⟩

set_option maxHeartbeats 400000 in
theorem impl_ReadShort_some (s : ByteArray) (A n q : Nat) (w : World) (hs : s.size ≤ 1048576) (hA : A ≤ s.size) (hn : n ≤ 1000000000) (hq : q ≤ s.size)
    (h : rvV A (rdL 5 [] (s.data.toList.drop A)) = .tuple #[.int .i64 n, .int .i64 q, .bool true]) :
    Calls Tryd.prog 12 #[.string s, .int .i64 A] w fun e w' => e = .returned (rsV s n q) ∧ Below w.heap.size w w' := by
  have c := impl_ReadVar_some hs hA h
  clear h
  by_cases h1 : n ≤ 20000
  · have d1 : decide ((20000 : Int) < n) = false := by simp; omega
    by_cases h2 : n + q ≤ s.size
    · have d2 : decide ((s.size : Int) - q < n) = false := by simp; omega
      have hz : (s.extract q (q + n)).size ≤ 281474976710656 := by rw [ByteArray.size_extract]; omega
      rw [show rsV s n q = .tuple #[.string (s.extract q (q + n)), .int .i64 ((q : Int) + n), .bool true] from if_pos ⟨h1, h2⟩]
      go_enter Tryd.func12, Tryd.ntmps12
      go_wp2_with (first | (go_at_call 7; refine (c _).mono ?_; rintro e w1 ⟨rfl, rfl⟩) | (go_at_call 23; refine (Clone_any (s.extract q (q + n)) _ hz).mono ?_; rintro e w1 ⟨rfl, hb⟩))
      go_ret3
      exact ⟨rfl, by assumption⟩
    · have d2 : decide ((s.size : Int) - q < n) = true := by simp; omega
      rw [show rsV s n q = .tuple #[.string ⟨#[]⟩, .int .i64 0, .bool false] from if_neg (fun x => h2 x.2)]
      go_enter Tryd.func12, Tryd.ntmps12
      go_wp2_with (go_at_call 7; refine (c _).mono ?_; rintro e w1 ⟨rfl, rfl⟩)
      go_ret3
      exact ⟨rfl, Below.refl _ _⟩
  · have d1 : decide ((20000 : Int) < n) = true := by simp; omega
    rw [show rsV s n q = .tuple #[.string ⟨#[]⟩, .int .i64 0, .bool false] from if_neg (fun x => h1 x.1)]
    go_enter Tryd.func12, Tryd.ntmps12
    go_wp2_with (go_at_call 7; refine (c _).mono ?_; rintro e w1 ⟨rfl, rfl⟩)
    go_ret3
    exact ⟨rfl, Below.refl _ _⟩

theorem impl_ReadShort_none (s : ByteArray) (a : Int) (w : World) (c : ∀ wx, Calls Tryd.prog 7 #[.string s, .int .i64 a] wx fun e w' => e = .returned (.tuple #[.int .i64 0, .int .i64 0, .bool false]) ∧ wx = w') :
    Calls Tryd.prog 12 #[.string s, .int .i64 a] w fun e w' => e = .returned (.tuple #[.string ⟨#[]⟩, .int .i64 0, .bool false]) ∧ Below w.heap.size w w' := by
  go_enter Tryd.func12, Tryd.ntmps12
  go_wp2_with (go_at_call 7; refine (c _).mono ?_; rintro e w1 ⟨rfl, rfl⟩)
  go_ret3
  exact ⟨rfl, Below.refl _ _⟩
end Go.Proofs.YtbllfkgmnajliaaDoor
