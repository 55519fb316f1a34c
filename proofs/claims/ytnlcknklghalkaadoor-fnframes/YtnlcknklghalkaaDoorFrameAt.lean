/- What stands at a place of a file: frameAt. -/
import Derived.Test.YtnlcknklghalkaaDoorFrame
namespace Go.Proofs.YtnlcknklghalkaaDoor
open Go.RowKit
open Plain
set_option linter.unusedVariables false

namespace Plain
theorem ext_seg2 (s : ByteArray) (A k : Nat) : (s.extract A k).data.toList = seg s.data.toList A k := by
  rw [Lib.extract_data, seg, List.drop_take]
theorem ext_str (s : ByteArray) (A k : Nat) : s.extract A k = ⟨(seg s.data.toList A k).toArray⟩ := by
  rw [← ext_seg2]
end Plain

set_option maxHeartbeats 1000000 in
theorem frameAt_none (s : ByteArray) (A : Nat) (w : World) (hs : s.size ≤ 20000) (hA : A ≤ s.size) (hr : rdL 5 [] (s.data.toList.drop A) = none) :
    Calls Tryd.prog 37 #[.string s, .int .i64 A] w fun e w' => e = .returned (.tuple #[.string ⟨#[]⟩, .int .i64 0, .bool false]) ∧ Below w.heap.size w w' := by
  have q := impl_ReadVar_in s A w (by omega) hA
  rw [hr] at q
  simp only [rvV] at q
  clear hr
  go_enter Tryd.func37, Tryd.ntmps37
  go_wp2_with (first | (go_at_call 41; refine q.mono ?_; rintro e w1 ⟨rfl, rfl⟩))
  go_ret3
  exact ⟨rfl, Below.refl _ _⟩

set_option maxHeartbeats 1000000 in
theorem frameAt_short (s : ByteArray) (A n d : Nat) (w : World) (hs : s.size ≤ 20000) (hA : A ≤ s.size) (hr : rdL 5 [] (s.data.toList.drop A) = some (n, d)) (hl : s.size < A + d + 4 + n) (hn : n ≤ 1000000000) (hd : A + d ≤ 20000) :
    Calls Tryd.prog 37 #[.string s, .int .i64 A] w fun e w' => e = .returned (.tuple #[.string ⟨#[]⟩, .int .i64 0, .bool false]) ∧ Below w.heap.size w w' := by
  have q := impl_ReadVar_in s A w (by omega) hA
  rw [hr] at q
  simp only [rvV] at q
  obtain ⟨F, hF⟩ : ∃ F, F = A + d := ⟨_, rfl⟩
  rw [← hF] at q hl hd
  have d1 : decide ((s.size : Int) - F - 4 < n) = true := by simp; omega
  clear hr hF
  go_enter Tryd.func37, Tryd.ntmps37
  go_wp2_with (first | (go_at_call 41; refine q.mono ?_; rintro e w1 ⟨rfl, rfl⟩))
  go_ret3
  exact ⟨rfl, Below.refl _ _⟩

set_option maxHeartbeats 1000000 in
theorem frameAt_odd (s : ByteArray) (A n d : Nat) (w : World) (hs : s.size ≤ 20000) (hA : A ≤ s.size) (hr : rdL 5 [] (s.data.toList.drop A) = some (n, d)) (hl : A + d + 4 + n ≤ s.size) (hn : n < 1 ∨ 9000 < n) :
    Calls Tryd.prog 37 #[.string s, .int .i64 A] w fun e w' => e = .returned (.tuple #[.string ⟨#[]⟩, .int .i64 0, .bool false]) ∧ Below w.heap.size w w' := by
  have q := impl_ReadVar_in s A w (by omega) hA
  rw [hr] at q
  simp only [rvV] at q
  obtain ⟨F, hF⟩ : ∃ F, F = A + d := ⟨_, rfl⟩
  rw [← hF] at q hl
  have d1 : decide ((s.size : Int) - F - 4 < n) = false := by simp; omega
  have hI1 : (0 : Int) ≤ (F : Int) + 4 := by omega
  have hI2 : (F : Int) + 4 ≤ (F : Int) + 4 + n := by omega
  have hI3 : (F : Int) + 4 + n ≤ (s.size : Int) := by omega
  have hz : (s.extract (F + 4) (F + 4 + n)).size = n := by rw [ByteArray.size_extract]; omega
  have qr := fun W => recordOk_any (s.extract (F + 4) (F + 4 + n)) W (by omega)
  rw [hz, decide_eq_false (show ¬ (1 ≤ n ∧ n ≤ 9000) by omega)] at qr
  clear hr hF hz
  go_enter Tryd.func37, Tryd.ntmps37
  go_wp2_with (first | (go_at_call 41; refine q.mono ?_; rintro e w1 ⟨rfl, rfl⟩))
  go_quiet ((go_at_call 23; exact Calls.quiet_of_same (qr _)))
  go_wp2
  go_ret3
  exact ⟨rfl, below_drewN (Below.refl _ _) _⟩

set_option maxHeartbeats 2000000 in
set_option maxRecDepth 100000 in
theorem frameAt_in (s : ByteArray) (A n d : Nat) (w : World) (hs : s.size ≤ 20000) (hA : A ≤ s.size) (hr : rdL 5 [] (s.data.toList.drop A) = some (n, d)) (hl : A + d + 4 + n ≤ s.size) (hn1 : 1 ≤ n) (hn2 : n ≤ 9000) (ht : Tabbed w) :
    Calls Tryd.prog 37 #[.string s, .int .i64 A] w fun e w' => e = .returned (frV (frL s.data.toList A)) ∧ Below w.heap.size w w' := by
  have q := impl_ReadVar_in s A w (by omega) hA
  rw [hr] at q
  simp only [rvV] at q
  have hno := hide (fun (h : ¬ four (sumOf (seg s.data.toList (A + d + 4) (A + d + 4 + n))) = seg s.data.toList (A + d) (A + d + 4)) => frL_no (l := s.data.toList) (A := A) hr (fun x => h x.2.2.2))
  have hyes := hide (frL_yes (l := s.data.toList) (A := A) hr (by simpa using hl) hn1 hn2)
  obtain ⟨F, hF⟩ : ∃ F, F = A + d := ⟨_, rfl⟩
  rw [← hF] at q hl hno hyes
  have d1 : decide ((s.size : Int) - F - 4 < n) = false := by simp; omega
  have hI0 : (0 : Int) ≤ (F : Int) := by omega
  have hI1 : (0 : Int) ≤ (F : Int) + 4 := by omega
  have hI2 : (F : Int) + 4 ≤ (F : Int) + 4 + n := by omega
  have hI3 : (F : Int) + 4 + n ≤ (s.size : Int) := by omega
  have hI4 : (F : Int) ≤ (F : Int) + 4 := by omega
  have hI5 : (F : Int) + 4 ≤ (s.size : Int) := by omega
  have hz : (s.extract (F + 4) (F + 4 + n)).size = n := by rw [ByteArray.size_extract]; omega
  have qr := fun W => recordOk_any (s.extract (F + 4) (F + 4 + n)) W (by omega)
  rw [hz, decide_eq_true (show (1 ≤ n ∧ n ≤ 9000) by omega)] at qr
  have q2 := fun W hW => impl_SumOf_any (s.extract (F + 4) (F + 4 + n)) W (by omega) hW
  have e0 := ext_seg2 s (F + 4) (F + 4 + n)
  have e1 := hide (ext_str s (F + 4) (F + 4 + n))
  obtain ⟨x, hx⟩ : ∃ x, x = sumOf (s.extract (F + 4) (F + 4 + n)).data.toList := ⟨_, rfl⟩
  have hxl : x < 4294967296 := by rw [hx]; exact sumOf_lt _
  rw [← hx] at q2
  rw [e0] at hx
  rw [← hx] at hno hyes
  have Q2 := hide q2
  have HT := hide ht
  clear hr hF hz hx e0 q2 ht
  go_enter Tryd.func37, Tryd.ntmps37
  go_wp2_with (first | (go_at_call 41; refine q.mono ?_; rintro e w1 ⟨rfl, rfl⟩))
  go_region_held3 (fun _ => True) (trivial) (first
    | (go_at_call 23; refine (qr _).mono ?_; rintro e w1 ⟨rfl, rfl⟩)
    | (go_at_call 25; refine (unhide Q2 _ ((unhide HT).below (Below.refl _ _).drew)).mono ?_; rintro e w2 ⟨rfl, hb2⟩)
    | (go_at_call 26; refine (text_any x _ hxl).mono ?_; rintro e w3 ⟨rfl, hb3⟩))
  all_goals go_wp2
  all_goals first
    | (have hq : (!four x == (s.extract F (F + 4)).toList) = true := by assumption
       rw [ext_seg] at hq
       go_ret3
       exact ⟨by rw [unhide hno (by simpa using hq)]; rfl, below2 (below2 (Below.refl _ _).drew hb2) hb3⟩)
    | (have hq : (!four x == (s.extract F (F + 4)).toList) = false := by assumption
       rw [ext_seg] at hq
       go_ret3
       exact ⟨by rw [unhide hyes (by simpa using hq), unhide e1]; rfl, below2 (below2 (Below.refl _ _).drew hb2) hb3⟩)

theorem frameAt_any (s : ByteArray) (A : Nat) (w : World) (hs : s.size ≤ 20000) (hA : A ≤ s.size) (ht : Tabbed w) :
    Calls Tryd.prog 37 #[.string s, .int .i64 A] w fun e w' => e = .returned (frV (frL s.data.toList A)) ∧ Below w.heap.size w w' := by
  cases hr : rdL 5 [] (s.data.toList.drop A) with
  | none => rw [frL_none hr]; exact frameAt_none s A w hs hA hr
  | some p =>
    obtain ⟨n, d⟩ := p
    have hd := rd_le hr
    rw [List.length_drop] at hd
    have hls : s.data.toList.length = s.size := rfl
    by_cases hl : A + d + 4 + n ≤ s.size
    · by_cases hn : 1 ≤ n ∧ n ≤ 9000
      · exact frameAt_in s A n d w hs hA hr hl hn.1 hn.2 ht
      · rw [frL_no hr (fun h => hn ⟨h.2.1, h.2.2.1⟩)]
        exact frameAt_odd s A n d w hs hA hr hl (by omega)
    · rw [frL_no hr (fun h => hl h.1)]
      exact frameAt_short s A n d w hs hA hr (by omega) hd.2.2 (by simp at hd; omega)
end Go.Proofs.YtnlcknklghalkaaDoor
