/- Commands: CmS, CmS2, CmS3 in one text. -/
import Derived.Test.YtjaohlnejkgkaaaGreatDoorCmPlain
import Derived.Test.YtjaohlnejkgkaaaGreatDoorBoxNameS
import Derived.Test.YtjaohlnejkgkaaaGreatDoorDecS
import Derived.Test.YtjaohlnejkgkaaaGreatDoorMemR
namespace Go.Proofs.YtjaohlnejkgkaaaGreatDoor
open Go.RowKit
open Plain
set_option linter.unusedVariables false
set_option linter.unusedSimpArgs false

theorem bool_ret {x y : Bool} (h : x = y) : Ending.returned (Value.bool x) = Ending.returned (Value.bool y) := by rw [h]
set_option maxHeartbeats 4000000 in
set_option maxRecDepth 100000 in
theorem spec_byte (b : UInt8) (w : World) : Calls Tryz.prog 56 #[.int .u8 (b.toNat : Int)] w fun e w' => e = .returned (.bool (plB b)) ∧ w' = w := by
  unfold plB
  generalize b.toNat = n
  go_enter Tryz.func56, Tryz.ntmps56
  go_wp2
  all_goals go_ret
  all_goals first
    | (refine ⟨bool_ret (x := true) ?_, rfl⟩; rw [Bool.eq_iff_iff]; simp only [Bool.and_eq_true, decide_eq_true_eq, Bool.not_eq_true', beq_eq_false_iff_ne, ne_eq, Bool.false_eq_true, true_iff, false_iff]; omega)
    | (refine ⟨bool_ret (x := (n : Int) != 34 && (n : Int) != 92 && (n : Int) != 40 && (n : Int) != 41 && (n : Int) != 123) ?_, rfl⟩; rw [Bool.eq_iff_iff]; simp only [Bool.and_eq_true, decide_eq_true_eq, Bool.not_eq_true', beq_eq_false_iff_ne, bne_iff_ne, ne_eq]; omega)
    | (refine ⟨bool_ret (x := false) ?_, rfl⟩; rw [Bool.eq_iff_iff]; simp only [Bool.and_eq_true, decide_eq_true_eq, Bool.not_eq_true', beq_eq_false_iff_ne, ne_eq, Bool.false_eq_true, true_iff, false_iff]; omega)

set_option maxHeartbeats 4000000 in
set_option maxRecDepth 100000 in
theorem spec_plain (s : ByteArray) (w : World) (hs : s.size ≤ 4194304) :
    Calls Tryz.prog 38 #[.string s] w fun e w' => e = .returned (.bool (plainW s.data.toList)) ∧ w' = w := by
  have hls : Hid (s.data.toList.length = s.size) := rfl
  have Q := hide (in_any (s.size : Int) 1 60 w)
  go_enter Tryz.func38, Tryz.ntmps38
  go_wp2
  go_loop [3] (fun i => ∃ k : Nat, k ≤ s.size ∧ i = .int .i64 k ∧ ∀ j c, j < k → s.data.toList[j]? = some c → plB c = true) (fun i => s.size - (intOf i).toNat)
  case atStart => exact ⟨0, Nat.zero_le _, rfl, fun j c hj => by omega⟩
  case round =>
    obtain ⟨k, hk, rfl, hall⟩ := hrel
    have HC := hide hall
    clear hall
    by_cases hlt : k < s.size
    · have hx : s.data.toList[k]? = some s[k] := List.getElem?_eq_getElem (l := s.data.toList) (i := k) hlt
      have NO := hide (fun h => plain_no hx h)
      have ON : Hid (plB s[k] = true → ∀ j c, j < k + 1 → s.data.toList[j]? = some c → plB c = true) := fun h j c hj hc => by
        by_cases e : j = k
        · subst e
          rw [hx] at hc
          cases hc
          exact h
        · exact unhide HC j c (by omega) hc
      clear hx HC
      have i1 : (0 : Int) ≤ (k : Int) := by omega
      have i2 : (k : Int) < (s.size : Int) := by omega
      go_wp2_with fail
      refine (spec_byte s[k] _).mono ?_
      rintro e w1 ⟨rfl, hw⟩
      subst w1
      cases h1 : plB s[k] with
      | true =>
        have ok := hide (unhide ON h1)
        go_wp2
        exact ⟨⟨k + 1, by omega, by go_num, unhide ok⟩, by simp [intOf]; omega⟩
      | false =>
        have no := hide (unhide NO h1)
        go_wp2
        go_ret
        exact ⟨by rw [unhide no]; rfl, rfl⟩
    · have e : k = s.size := by omega
      subst e
      have V : Hid (plainW s.data.toList = inI (s.size : Int) 1 60) := plain_yes (fun i c hc => unhide HC i c (by have := (List.getElem?_eq_some_iff.1 hc).1; have h2 := unhide hls; omega) hc)
      clear HC
      go_wp2_with (go_at_call 23; refine (unhide Q).mono ?_; rintro e w1 ⟨rfl, hw⟩; subst w1)
      go_ret
      exact ⟨by rw [unhide V]; rfl, rfl⟩

namespace Plain
theorem scan_nil (st : Bool) (n k : Nat) : scanL st n k [] = 0 := rfl
theorem scan_close {st : Bool} {n k : Nat} {r : List UInt8} : scanL st n k (41 :: r) = if n = 0 ∧ st = false then -1 else (k : Int) + 1 := by rw [scanL, if_pos rfl]
theorem scan_blank {st : Bool} {n k : Nat} {r : List UInt8} : scanL st n k (32 :: r) = if n = 0 then -1 else scanL false 0 (k + 1) r := by rw [scanL, if_neg (by decide), if_pos rfl]
theorem scan_other {st : Bool} {n k : Nat} {b : UInt8} {r : List UInt8} (h1 : b ≠ 41) (h2 : b ≠ 32) : scanL st n k (b :: r) = if plB b = false ∨ n = 60 then -1 else scanL false (n + 1) (k + 1) r := by rw [scanL, if_neg h1, if_neg h2]
theorem byte_ne {b c : UInt8} (h : b ≠ c) : ((b.toNat : Int) == (c.toNat : Int)) = false := by
  rw [beq_eq_false_iff_ne]
  intro e
  exact h (UInt8.toNat_inj.1 (by omega))
end Plain
set_option maxHeartbeats 4000000 in
set_option maxRecDepth 100000 in
theorem spec_list (s : ByteArray) (P : Nat) (w : World) (hs : s.size ≤ 4194304) (hP : P < s.size) :
    Calls Tryz.prog 39 #[.string s, .int .i64 (P : Int)] w fun e w' => e = .returned (.int .i64 (scanL true 0 (P + 1) (s.data.toList.drop (P + 1)))) ∧ w' = w := by
  obtain ⟨V, hV⟩ : ∃ V, scanL true 0 (P + 1) (s.data.toList.drop (P + 1)) = V := ⟨_, rfl⟩
  rw [hV]
  have HV := hide hV
  clear hV
  go_enter Tryz.func39, Tryz.ntmps39
  go_wp2
  go_loop [5, 6] (fun n i => ∃ k m : Nat, P + 1 ≤ k ∧ k ≤ s.size ∧ m ≤ 60 ∧ n = .int .i64 m ∧ i = .int .i64 k ∧ scanL (decide (k = P + 1)) m k (s.data.toList.drop k) = V) (fun _ i => s.size - (intOf i).toNat)
  case atStart => exact ⟨P + 1, 0, Nat.le_refl _, hP, by omega, rfl, by go_num, by rw [decide_eq_true rfl]; exact unhide HV⟩
  case round =>
    obtain ⟨k, m, hk0, hk, hm, rfl, rfl, hall⟩ := hrel
    have HC := hide hall
    clear hall HV
    by_cases hlt : k < s.size
    · have HD : Hid (s.data.toList.drop k = s[k] :: s.data.toList.drop (k + 1)) := List.drop_eq_getElem_cons (l := s.data.toList) hlt
      have i1 : (0 : Int) ≤ (k : Int) := by omega
      have i2 : (k : Int) < (s.size : Int) := by omega
      have w1 : IntKind.i64.wrap ((P : Int) + 1) = (P : Int) + 1 := by rw [IntKind.wrap_i64]; omega
      have w2 : IntKind.i64.wrap ((k : Int) + 1) = (k : Int) + 1 := by rw [IntKind.wrap_i64]; omega
      have w3 : IntKind.i64.wrap ((m : Int) + 1) = (m : Int) + 1 := by rw [IntKind.wrap_i64]; omega
      by_cases c1 : s[k] = 41
      · have VV : Hid (V = if m = 0 ∧ decide (k = P + 1) = false then -1 else (k : Int) + 1) := by show V = _; rw [← unhide HC, unhide HD, c1, scan_close]
        have d1 : ((s[k].toNat : Int) == 41) = true := by rw [c1]; decide
        clear HC HD c1
        by_cases c2 : m = 0
        · subst c2
          by_cases c3 : P + 1 < k
          · have d3 : decide ((P : Int) + 1 < (k : Int)) = true := by rw [decide_eq_true_eq]; omega
            have VX : Hid (V = -1) := by show V = _; rw [unhide VV, if_pos ⟨rfl, decide_eq_false (by omega)⟩]
            go_wp2
            go_ret
            exact ⟨by rw [unhide VX]; rfl, rfl⟩
          · have d3 : decide ((P : Int) + 1 < (k : Int)) = false := by rw [decide_eq_false_iff_not]; omega
            have VX : Hid (V = (k : Int) + 1) := by show V = _; rw [unhide VV, if_neg (by simp; omega)]
            go_wp2
            go_ret
            exact ⟨by rw [unhide VX]; rfl, rfl⟩
        · have d2 : ((m : Int) == 0) = false := by rw [beq_eq_false_iff_ne]; omega
          have VX : Hid (V = (k : Int) + 1) := by show V = _; rw [unhide VV, if_neg (by simp [c2])]
          go_wp2
          go_ret
          exact ⟨by rw [unhide VX]; rfl, rfl⟩
      · have d1 : ((s[k].toNat : Int) == 41) = false := byte_ne c1
        by_cases c2 : s[k] = 32
        · have VV : Hid (V = if m = 0 then -1 else scanL false 0 (k + 1) (s.data.toList.drop (k + 1))) := by show V = _; rw [← unhide HC, unhide HD, c2, scan_blank]
          have d2 : ((s[k].toNat : Int) == 32) = true := by rw [c2]; decide
          clear HC HD c1 c2
          by_cases c3 : m = 0
          · subst c3
            have VX : Hid (V = -1) := by show V = _; rw [unhide VV, if_pos rfl]
            go_wp2
            go_ret
            exact ⟨by rw [unhide VX]; rfl, rfl⟩
          · have d3 : ((m : Int) == 0) = false := by rw [beq_eq_false_iff_ne]; omega
            have VX : Hid (scanL (decide (k + 1 = P + 1)) 0 (k + 1) (s.data.toList.drop (k + 1)) = V) := by show _ = V; rw [unhide VV, if_neg c3, decide_eq_false (by omega)]
            go_wp2
            exact ⟨⟨k + 1, 0, by omega, by omega, by omega, rfl, by go_num, unhide VX⟩, by simp [intOf]; omega⟩
        · have d2 : ((s[k].toNat : Int) == 32) = false := byte_ne c2
          have VV : Hid (V = if plB s[k] = false ∨ m = 60 then -1 else scanL false (m + 1) (k + 1) (s.data.toList.drop (k + 1))) := by show V = _; rw [← unhide HC, unhide HD, scan_other c1 c2]
          clear HC HD c1 c2
          have QB := hide (spec_byte s[k] w)
          cases c3 : plB s[k] with
          | false =>
            have VX : Hid (V = -1) := by show V = _; rw [unhide VV, if_pos (.inl c3)]
            rw [c3] at QB
            go_wp2_with (refine (unhide QB).mono ?_; rintro e w1 ⟨rfl, hw⟩; subst w1)
            go_ret
            exact ⟨by rw [unhide VX]; rfl, rfl⟩
          | true =>
            rw [c3] at QB
            by_cases c4 : m = 60
            · have VX : Hid (V = -1) := by show V = _; rw [unhide VV, if_pos (.inr c4)]
              subst c4
              go_wp2_with (refine (unhide QB).mono ?_; rintro e w1 ⟨rfl, hw⟩; subst w1)
              go_ret
              exact ⟨by rw [unhide VX]; rfl, rfl⟩
            · have d4 : ((m : Int) == 60) = false := by rw [beq_eq_false_iff_ne]; omega
              have VX : Hid (scanL (decide (k + 1 = P + 1)) (m + 1) (k + 1) (s.data.toList.drop (k + 1)) = V) := by show _ = V; rw [unhide VV, if_neg (by simp [c3, c4]), decide_eq_false (by omega)]
              go_wp2_with (refine (unhide QB).mono ?_; rintro e w1 ⟨rfl, hw⟩; subst w1)
              exact ⟨⟨k + 1, m + 1, by omega, by omega, by omega, by go_num, by go_num, unhide VX⟩, by simp [intOf]; omega⟩
    · have e : k = s.size := by omega
      subst e
      have VX : Hid (V = 0) := by show V = _; rw [← unhide HC, List.drop_eq_nil_of_le (by show s.data.toList.length ≤ s.size; exact Nat.le_refl _), scan_nil]
      clear HC
      go_wp2
      go_ret
      exact ⟨by rw [unhide VX]; rfl, rfl⟩
end Go.Proofs.YtjaohlnejkgkaaaGreatDoor
namespace Go.Proofs.YtjaohlnejkgkaaaGreatDoor
open Go.RowKit
open Plain
set_option linter.unusedVariables false
set_option linter.unusedSimpArgs false
attribute [local go_sem] cell_of frozen_of

namespace Plain
theorem byteOne (s : ByteArray) (k : Nat) (h : k < s.size) : s.extract k (k + 1) = ⟨#[s[k]]⟩ := by
  apply ByteArray.ext
  apply Array.toList_inj.1
  rw [Lib.extract_data]
  show ((s.data.toList.drop k).take (k + 1 - k)) = [s[k]]
  rw [List.drop_eq_getElem_cons (l := s.data.toList) h, Nat.add_sub_cancel_left]
  rfl
theorem quoted_snoc {l : List UInt8} {k : Nat} {b : UInt8} (h : l[k]? = some b) : (l.take (k + 1)).flatMap quB = (l.take k).flatMap quB ++ quB b := by
  rw [List.take_add_one, h, List.flatMap_append]
  simp
end Plain
def quoteV (l : List UInt8) : Value := if l.all prB then .tuple #[.string ⟨(quoteL l).toArray⟩, .bool true] else .tuple #[.string ⟨#[]⟩, .bool false]
set_option maxHeartbeats 4000000 in
set_option maxRecDepth 100000 in
theorem spec_quoted (s : ByteArray) (w : World) (hs : s.size ≤ 4194304) :
    Calls Tryz.prog 40 #[.string s] w fun e w' => e = .returned (quoteV s.data.toList) ∧ w' = w := by
  have hls : Hid (s.data.toList.length = s.size) := rfl
  go_enter Tryz.func40, Tryz.ntmps40
  go_wp2
  go_loop [4, 5] (fun o i => ∃ (k : Nat) (x : List UInt8), k ≤ s.size ∧ i = .int .i64 k ∧ o = .string ⟨x.toArray⟩ ∧ Hid (x = 34 :: (s.data.toList.take k).flatMap quB) ∧ x.length ≤ 2 * k + 1 ∧ ∀ j c, j < k → s.data.toList[j]? = some c → prB c = true) (fun _ i => s.size - (intOf i).toNat)
  case atStart => exact ⟨0, [34], Nat.zero_le _, rfl, rfl, rfl, by simp, fun j c hj => by omega⟩
  case round =>
    obtain ⟨k, x, hk, rfl, rfl, HX, hxl, hall⟩ := hrel
    have HC := hide hall
    clear hall
    have hxs : (⟨x.toArray⟩ : ByteArray).size ≤ 2 * k + 1 := hxl
    by_cases hlt : k < s.size
    · have hx : s.data.toList[k]? = some s[k] := List.getElem?_eq_getElem (l := s.data.toList) (i := k) hlt
      have NO := hide (fun h => print_no hx h)
      have ON : Hid (prB s[k] = true → ∀ j c, j < k + 1 → s.data.toList[j]? = some c → prB c = true) := fun h j c hj hc => by
        by_cases e : j = k
        · subst e
          rw [hx] at hc
          cases hc
          exact h
        · exact unhide HC j c (by omega) hc
      have XN : Hid (34 :: (s.data.toList.take (k + 1)).flatMap quB = x ++ quB s[k]) := by show _ = _; rw [quoted_snoc hx, unhide HX]; simp
      have EX := hide (byteOne s k hlt)
      have LD : Hid (prB s[k] = (decide (32 ≤ s[k].toNat) && decide (s[k].toNat ≤ 126))) := rfl
      clear hx HC HX
      have i1 : (0 : Int) ≤ (k : Int) := by omega
      have i2 : (k : Int) < (s.size : Int) := by omega
      by_cases h1 : 32 ≤ s[k].toNat
      · have d1 : decide ((s[k].toNat : Int) < 32) = false := by rw [decide_eq_false_iff_not]; omega
        by_cases h2 : s[k].toNat ≤ 126
        · have d2 : decide ((126 : Int) < (s[k].toNat : Int)) = false := by rw [decide_eq_false_iff_not]; omega
          have ok := hide (unhide ON (by rw [unhide LD, decide_eq_true h1, decide_eq_true h2]; rfl))
          clear NO ON LD
          by_cases c1 : s[k] = 34
          · have e1 : ((s[k].toNat : Int) == 34) = true := by rw [c1]; decide
            have QX : Hid (quB s[k] = [92, s[k]]) := if_pos (.inl c1)
            clear c1 h1 h2
            go_wp2
            refine ⟨⟨k + 1, x ++ [92] ++ [s[k]], by omega, by go_num, ?_, by show _ = _; rw [unhide XN, unhide QX]; simp, by simp; omega, unhide ok⟩, by simp [intOf]; omega⟩
            rw [unhide EX]
            exact congrArg Value.string ((congrArg (· ++ _) (ByteArray.mk_append_mk x [92])).trans (ByteArray.mk_append_mk (x ++ [92]) [s[k]]))
          · have e1 : ((s[k].toNat : Int) == 34) = false := byte_ne c1
            by_cases c2 : s[k] = 92
            · have e2 : ((s[k].toNat : Int) == 92) = true := by rw [c2]; decide
              have QX : Hid (quB s[k] = [92, s[k]]) := if_pos (.inr c2)
              clear c1 c2 h1 h2
              go_wp2
              refine ⟨⟨k + 1, x ++ [92] ++ [s[k]], by omega, by go_num, ?_, by show _ = _; rw [unhide XN, unhide QX]; simp, by simp; omega, unhide ok⟩, by simp [intOf]; omega⟩
              rw [unhide EX]
              exact congrArg Value.string ((congrArg (· ++ _) (ByteArray.mk_append_mk x [92])).trans (ByteArray.mk_append_mk (x ++ [92]) [s[k]]))
            · have e2 : ((s[k].toNat : Int) == 92) = false := byte_ne c2
              have QX : Hid (quB s[k] = [s[k]]) := if_neg (by simp [c1, c2])
              clear c1 c2 h1 h2
              go_wp2
              refine ⟨⟨k + 1, x ++ [s[k]], by omega, by go_num, ?_, by show _ = _; rw [unhide XN, unhide QX], by simp; omega, unhide ok⟩, by simp [intOf]; omega⟩
              rw [unhide EX]
              exact congrArg Value.string (ByteArray.mk_append_mk x [s[k]])
        · have d2 : decide ((126 : Int) < (s[k].toNat : Int)) = true := by rw [decide_eq_true_eq]; omega
          have no := hide (unhide NO (by rw [unhide LD, decide_eq_false h2, Bool.and_false]))
          clear ON LD NO h1 h2
          go_wp2
          refine bodyPost_ret (by simp [results, Tryz.results40, go_sem]; try rfl) rfl ?_
          exact ⟨by unfold quoteV; rw [unhide no]; rfl, rfl⟩
      · have d1 : decide ((s[k].toNat : Int) < 32) = true := by rw [decide_eq_true_eq]; omega
        have no := hide (unhide NO (by rw [unhide LD, decide_eq_false h1, Bool.false_and]))
        clear ON LD NO h1
        go_wp2
        refine bodyPost_ret (by simp [results, Tryz.results40, go_sem]; try rfl) rfl ?_
        exact ⟨by unfold quoteV; rw [unhide no]; rfl, rfl⟩
    · have e : k = s.size := by omega
      subst e
      have V : Hid (s.data.toList.all prB = true) := print_yes (fun i c hc => unhide HC i c (by have := (List.getElem?_eq_some_iff.1 hc).1; have h2 := unhide hls; omega) hc)
      have XE : Hid (x ++ [34] = quoteL s.data.toList) := by show _ = _; rw [unhide HX, List.take_of_length_le (by show s.data.toList.length ≤ s.size; exact Nat.le_refl _)]; rfl
      clear HC HX
      go_wp2
      refine bodyPost_ret (by simp [results, Tryz.results40, go_sem]; try rfl) rfl ?_
      refine ⟨?_, rfl⟩
      unfold quoteV
      rw [unhide V, if_pos rfl, ← unhide XE, ← ByteArray.mk_append_mk x [34]]

namespace Plain
theorem listW_no {l : List UInt8} (h : l.length ≤ 1) : listW l = false := by
  cases l with
  | nil => rfl
  | cons b r =>
    obtain rfl : r = [] := by simpa using h
    show (b == 40 && (0 : Int) == ((0 : Nat) : Int) + 1) = false
    simp
theorem listW_is (s : ByteArray) (h : 0 < s.size) : listW s.data.toList = (s[0] == 40 && scanL true 0 1 (s.data.toList.drop 1) == (s.size : Int)) := by
  have hd : s.data.toList = s[0] :: s.data.toList.drop 1 := List.drop_eq_getElem_cons (l := s.data.toList) (i := 0) h
  have hl : ((s.data.toList.drop 1).length : Int) + 1 = (s.size : Int) := by
    rw [List.length_drop]
    show ((s.size - 1 : Nat) : Int) + 1 = _
    omega
  generalize s.data.toList.drop 1 = r at *
  rw [hd]
  show (s[0] == 40 && scanL true 0 1 r == (r.length : Int) + 1) = _
  rw [hl]
theorem lit_text (s : ByteArray) (y : List UInt8) : (⟨#[123]⟩ : ByteArray) ++ ⟨y.toArray⟩ ++ ⟨#[125, 13, 10]⟩ ++ s = ⟨(123 :: (y ++ (125 :: 13 :: 10 :: s.data.toList))).toArray⟩ := by
  apply ByteArray.ext
  apply Array.toList_inj.1
  simp [ByteArray.data_append]
end Plain
set_option maxHeartbeats 8000000 in
set_option maxRecDepth 100000 in
theorem spec_word (s : ByteArray) (w : World) (hs : s.size ≤ 4194304) :
    Calls Tryz.prog 24 #[.string s] w fun e w' => e = .returned (.string ⟨(wordT s.data.toList).toArray⟩) ∧ Below w.heap.size w w' := by
  have Q1 := hide (fun W => spec_plain s W hs)
  have Q3 := hide (fun W => spec_quoted s W hs)
  have Q4 := hide (fun W => spec_Decimal_any (s.size : Int) W (by omega) (by omega))
  have HI : Hid ((Lib.itoa (s.size : Int)).length ≤ 20) := itoa_len (by omega)
  have HW : Hid (wordT s.data.toList = if plainW s.data.toList || listW s.data.toList then s.data.toList else if s.data.toList.all prB then quoteL s.data.toList else 123 :: (Lib.itoa (s.size : Int) ++ (125 :: 13 :: 10 :: s.data.toList))) := rfl
  have HSZ : Hid (s.size ≤ 4194304) := hs
  cases h1 : plainW s.data.toList with
  | true =>
    rw [h1] at Q1
    have V : Hid (wordT s.data.toList = s.data.toList) := by show _ = _; rw [unhide HW, h1]; rfl
    clear h1 Q3 Q4 HW HI
    go_enter Tryz.func24, Tryz.ntmps24
    go_wp2_with (go_at_call 38; refine (unhide Q1 _).mono ?_; rintro e w1 ⟨rfl, hw⟩; subst w1)
    go_ret
    exact ⟨by rw [unhide V]; rfl, Below.refl _ _⟩
  | false =>
    rw [h1] at Q1
    have V : Hid (wordT s.data.toList = if listW s.data.toList then s.data.toList else if s.data.toList.all prB then quoteL s.data.toList else 123 :: (Lib.itoa (s.size : Int) ++ (125 :: 13 :: 10 :: s.data.toList))) := by show _ = _; rw [unhide HW, h1, Bool.false_or]
    clear h1 HW
    by_cases c1 : 1 < s.size
    · have d1 : decide ((1 : Int) < (s.size : Int)) = true := by rw [decide_eq_true_eq]; omega
      have i1 : (0 : Int) < (s.size : Int) := by omega
      have LI := listW_is s (by omega)
      have Q2 := hide (fun W => spec_list s 0 W hs (by omega))
      by_cases c2 : s[0] = 40
      · have d2 : ((s[0].toNat : Int) == 40) = true := by rw [c2]; decide
        rw [c2] at LI
        change _ = (true && _) at LI
        rw [Bool.true_and] at LI
        change Hid (∀ W, Calls _ _ _ W fun e w' => e = .returned (.int .i64 (scanL true 0 1 (s.data.toList.drop 1))) ∧ w' = W) at Q2
        generalize scanL true 0 1 (s.data.toList.drop 1) = z at *
        clear c2
        cases c3 : (z == (s.size : Int)) with
        | true =>
          rw [LI, c3] at V
          have V2 : Hid (wordT s.data.toList = s.data.toList) := by show _ = _; rw [unhide V]; rfl
          clear V LI Q3 Q4 HI
          go_enter Tryz.func24, Tryz.ntmps24
          go_wp2_with (first | (go_at_call 38; refine (unhide Q1 _).mono ?_; rintro e w1 ⟨rfl, hw⟩; subst w1) | (go_at_call 39; refine (unhide Q2 _).mono ?_; rintro e w1 ⟨rfl, hw⟩; subst w1))
          go_ret
          exact ⟨by rw [unhide V2]; rfl, Below.refl _ _⟩
        | false =>
          rw [c3] at LI
          rw [LI, if_neg (by decide)] at V
          cases h3 : s.data.toList.all prB with
          | true =>
            rw [h3] at V
            have V2 : Hid (wordT s.data.toList = quoteL s.data.toList) := V
            rw [show quoteV s.data.toList = .tuple #[.string ⟨(quoteL s.data.toList).toArray⟩, .bool true] from by unfold quoteV; rw [h3]; rfl] at Q3
            generalize quoteL s.data.toList = y at *
            clear V h3 HI LI
            go_enter Tryz.func24, Tryz.ntmps24
            go_wp2_with (first | (go_at_call 38; refine (unhide Q1 _).mono ?_; rintro e w1 ⟨rfl, hw⟩; subst w1) | (go_at_call 39; refine (unhide Q2 _).mono ?_; rintro e w1 ⟨rfl, hw⟩; subst w1) | (go_at_call 40; refine (unhide Q3 _).mono ?_; rintro e w1 ⟨rfl, hw⟩; subst w1) | (go_at_call 41; refine (unhide Q4 _).mono ?_; rintro e w1 ⟨rfl, hb⟩))
            go_ret
            exact ⟨by rw [unhide V2]; rfl, Below.refl _ _⟩
          | false =>
            rw [h3] at V
            have V2 : Hid (wordT s.data.toList = 123 :: (Lib.itoa (s.size : Int) ++ (125 :: 13 :: 10 :: s.data.toList))) := V
            rw [show quoteV s.data.toList = .tuple #[.string ⟨#[]⟩, .bool false] from by unfold quoteV; rw [h3]; rfl] at Q3
            clear V h3 LI
            generalize Lib.itoa (s.size : Int) = y at *
            have hy : y.length ≤ 20 := unhide HI
            have iy1 : ¬ 9223372036854775807 < 1 + y.length := by omega
            have iy2 : ¬ 9223372036854775807 < 1 + y.length + 3 := by omega
            have iy3 : ¬ 9223372036854775807 < 1 + y.length + 3 + s.size := by omega
            go_enter Tryz.func24, Tryz.ntmps24
            go_wp2_with (first | (go_at_call 38; refine (unhide Q1 _).mono ?_; rintro e w1 ⟨rfl, hw⟩; subst w1) | (go_at_call 39; refine (unhide Q2 _).mono ?_; rintro e w1 ⟨rfl, hw⟩; subst w1) | (go_at_call 40; refine (unhide Q3 _).mono ?_; rintro e w1 ⟨rfl, hw⟩; subst w1) | (go_at_call 41; refine (unhide Q4 _).mono ?_; rintro e w1 ⟨rfl, hb⟩))
            go_ret
            refine ⟨?_, hb⟩
            rw [unhide V2]
            exact congrArg (fun x => Ending.returned (Value.string x)) (lit_text s y)
      · have d2 : ((s[0].toNat : Int) == 40) = false := byte_ne c2
        rw [show (s[0] == 40) = false from by simpa using c2, Bool.false_and] at LI
        clear c2 Q2
        rw [LI, if_neg (by decide)] at V
        cases h3 : s.data.toList.all prB with
        | true =>
          rw [h3] at V
          have V2 : Hid (wordT s.data.toList = quoteL s.data.toList) := V
          rw [show quoteV s.data.toList = .tuple #[.string ⟨(quoteL s.data.toList).toArray⟩, .bool true] from by unfold quoteV; rw [h3]; rfl] at Q3
          generalize quoteL s.data.toList = y at *
          clear V h3 HI LI
          go_enter Tryz.func24, Tryz.ntmps24
          go_wp2_with (first | (go_at_call 38; refine (unhide Q1 _).mono ?_; rintro e w1 ⟨rfl, hw⟩; subst w1) | (go_at_call 40; refine (unhide Q3 _).mono ?_; rintro e w1 ⟨rfl, hw⟩; subst w1) | (go_at_call 41; refine (unhide Q4 _).mono ?_; rintro e w1 ⟨rfl, hb⟩))
          go_ret
          exact ⟨by rw [unhide V2]; rfl, Below.refl _ _⟩
        | false =>
          rw [h3] at V
          have V2 : Hid (wordT s.data.toList = 123 :: (Lib.itoa (s.size : Int) ++ (125 :: 13 :: 10 :: s.data.toList))) := V
          rw [show quoteV s.data.toList = .tuple #[.string ⟨#[]⟩, .bool false] from by unfold quoteV; rw [h3]; rfl] at Q3
          clear V h3 LI
          generalize Lib.itoa (s.size : Int) = y at *
          have hy : y.length ≤ 20 := unhide HI
          have iy1 : ¬ 9223372036854775807 < 1 + y.length := by omega
          have iy2 : ¬ 9223372036854775807 < 1 + y.length + 3 := by omega
          have iy3 : ¬ 9223372036854775807 < 1 + y.length + 3 + s.size := by omega
          go_enter Tryz.func24, Tryz.ntmps24
          go_wp2_with (first | (go_at_call 38; refine (unhide Q1 _).mono ?_; rintro e w1 ⟨rfl, hw⟩; subst w1) | (go_at_call 40; refine (unhide Q3 _).mono ?_; rintro e w1 ⟨rfl, hw⟩; subst w1) | (go_at_call 41; refine (unhide Q4 _).mono ?_; rintro e w1 ⟨rfl, hb⟩))
          go_ret
          refine ⟨?_, hb⟩
          rw [unhide V2]
          exact congrArg (fun x => Ending.returned (Value.string x)) (lit_text s y)
    · have d1 : decide ((1 : Int) < (s.size : Int)) = false := by rw [decide_eq_false_iff_not]; omega
      have LI := listW_no (l := s.data.toList) (by show s.size ≤ 1; omega)
      clear c1
      rw [LI, if_neg (by decide)] at V
      cases h3 : s.data.toList.all prB with
      | true =>
        rw [h3] at V
        have V2 : Hid (wordT s.data.toList = quoteL s.data.toList) := V
        rw [show quoteV s.data.toList = .tuple #[.string ⟨(quoteL s.data.toList).toArray⟩, .bool true] from by unfold quoteV; rw [h3]; rfl] at Q3
        generalize quoteL s.data.toList = y at *
        clear V h3 HI LI
        go_enter Tryz.func24, Tryz.ntmps24
        go_wp2_with (first | (go_at_call 38; refine (unhide Q1 _).mono ?_; rintro e w1 ⟨rfl, hw⟩; subst w1) | (go_at_call 40; refine (unhide Q3 _).mono ?_; rintro e w1 ⟨rfl, hw⟩; subst w1) | (go_at_call 41; refine (unhide Q4 _).mono ?_; rintro e w1 ⟨rfl, hb⟩))
        go_ret
        exact ⟨by rw [unhide V2]; rfl, Below.refl _ _⟩
      | false =>
        rw [h3] at V
        have V2 : Hid (wordT s.data.toList = 123 :: (Lib.itoa (s.size : Int) ++ (125 :: 13 :: 10 :: s.data.toList))) := V
        rw [show quoteV s.data.toList = .tuple #[.string ⟨#[]⟩, .bool false] from by unfold quoteV; rw [h3]; rfl] at Q3
        clear V h3 LI
        generalize Lib.itoa (s.size : Int) = y at *
        have hy : y.length ≤ 20 := unhide HI
        have iy1 : ¬ 9223372036854775807 < 1 + y.length := by omega
        have iy2 : ¬ 9223372036854775807 < 1 + y.length + 3 := by omega
        have iy3 : ¬ 9223372036854775807 < 1 + y.length + 3 + s.size := by omega
        go_enter Tryz.func24, Tryz.ntmps24
        go_wp2_with (first | (go_at_call 38; refine (unhide Q1 _).mono ?_; rintro e w1 ⟨rfl, hw⟩; subst w1) | (go_at_call 40; refine (unhide Q3 _).mono ?_; rintro e w1 ⟨rfl, hw⟩; subst w1) | (go_at_call 41; refine (unhide Q4 _).mono ?_; rintro e w1 ⟨rfl, hb⟩))
        go_ret
        refine ⟨?_, hb⟩
        rw [unhide V2]
        exact congrArg (fun x => Ending.returned (Value.string x)) (lit_text s y)
end Go.Proofs.YtjaohlnejkgkaaaGreatDoor
namespace Go.Proofs.YtjaohlnejkgkaaaGreatDoor
open Go.RowKit
open Plain
set_option linter.unusedVariables false
set_option linter.unusedSimpArgs false
attribute [local go_sem] cell_of frozen_of

/-- Words that can be read. -/
def SeeW (w : World) (a : Option Addr) (l : List (List UInt8)) : Prop := ∀ (k : Nat) (x : List UInt8), l[k]? = some x → ∃ g, a = some ⟨g, 0, none⟩ ∧ HasCell w g k (.string ⟨x.toArray⟩)
theorem SeeW.up {w W : World} {L : List Pc} {a : Option Addr} {l : List (List UInt8)} (h : SeeW w a l) [M : Mem w W L] : SeeW W a l := fun k f hf => by
  obtain ⟨g, e, c0⟩ := h k f hf
  exact ⟨g, e, inferInstance⟩
theorem seeW_own {B : Nat} {w : World} {a : Option Addr} {n c : Nat} {l : List (List UInt8)} (h : w.ownsRow B 9 1 (.slice a n c) l.length (Plain.strs l)) : SeeW w a l := by
  intro k f hf
  have hk : k < l.length := (List.getElem?_eq_some_iff.1 hf).1
  rcases h.2 with ⟨_, h0⟩ | ⟨g, cap, cur, he, _, _, _⟩
  · omega
  · cases he
    refine ⟨g, rfl, ⟨?_⟩⟩
    rw [h.cellAt k (by omega)]
    simp [Plain.strs, hf]
def cmdT (V : List UInt8 × Bool) : Value := .tuple #[.string ⟨V.1.toArray⟩, .bool V.2]
namespace Plain
theorem wordT_ge (l : List UInt8) : l.length ≤ (wordT l).length := by
  unfold wordT
  split
  · exact Nat.le_refl _
  · split
    · unfold quoteL
      have : ∀ r : List UInt8, r.length ≤ (r.flatMap quB).length := by
        intro r
        induction r with
        | nil => simp
        | cons b r ih => rw [List.flatMap_cons, List.length_append, List.length_cons]; have : 1 ≤ (quB b).length := by unfold quB; split <;> simp
                         omega
      have := this l
      simp only [List.length_cons, List.length_append]; omega
    · unfold litL; simp only [List.length_cons, List.length_append]; omega
theorem joinT_ge : ∀ (l : List (List UInt8)) (w : List UInt8), w ∈ l → w.length ≤ (joinT l).length := by
  intro l
  induction l with
  | nil => intro w h; cases h
  | cons a r ih =>
    intro w h
    have ha := wordT_ge a
    cases r with
    | nil => rcases List.mem_singleton.1 h with rfl; exact ha
    | cons b r =>
      simp only [joinT, List.length_append, List.length_cons]
      rcases List.mem_cons.1 h with rfl | h
      · omega
      · have := ih w h; omega
theorem cmdV_long {l : List (List UInt8)} {w : List UInt8} (h : w ∈ l) (hw : 300 < w.length) : cmdV l = ([], false) := by
  unfold cmdV
  have := joinT_ge l w h
  split
  · rw [if_neg (by omega)]
  · rfl
theorem cmdV_out {l : List (List UInt8)} (h : inI (l.length : Int) 1 12 = false) : cmdV l = ([], false) := by unfold cmdV; rw [h]; rfl
theorem cmdV_in {l : List (List UInt8)} (h : inI (l.length : Int) 1 12 = true) : cmdV l = if (joinT l).length + 2 ≤ 300 then (joinT l ++ [13, 10], true) else ([], false) := by unfold cmdV; rw [h]; rfl
end Plain
set_option maxHeartbeats 8000000 in
set_option maxRecDepth 100000 in
theorem spec_CommandText_any (l : List (List UInt8)) (a : Option Addr) (c : Nat) (w : World) (hn : l.length ≤ 1048576) (h : SeeW w a l) :
    Calls Tryz.prog 10 #[.slice a l.length c] w fun e w' => e = .returned (cmdT (cmdV l)) ∧ Below w.heap.size w w' := by
  have H := hide h
  have M := Mem.start w
  clear h
  have Q1 := hide (in_any (l.length : Int) 1 12 w)
  have V1 := hide (cmdV_out (l := l))
  have V2 := hide (cmdV_in (l := l))
  have V3 := hide (fun w h => cmdV_long (l := l) (w := w) h)
  obtain ⟨V, hV⟩ : ∃ V, cmdV l = V := ⟨_, rfl⟩
  rw [hV] at V1 V2 V3 ⊢
  clear hV
  go_enter Tryz.func10, Tryz.ntmps10
  go_wp2_with fail
  refine (unhide Q1).mono ?_
  rintro e w1 ⟨rfl, hw⟩
  subst w1
  cases h1 : inI (l.length : Int) 1 12 with
  | false =>
    have hx := unhide V1 h1
    subst hx
    go_wp2
    refine bodyPost_ret (by simp [results, Tryz.results10, go_sem]; try rfl) rfl ?_
    exact ⟨rfl, Below.refl _ _⟩
  | true =>
  have V2 := hide (unhide V2 h1)
  have HN : Hid (l.length ≤ 12) := by have := inI_iff.1 h1; show l.length ≤ 12; omega
  clear h1 V1 Q1
  go_wp2
  go_loopw [4, 5] (fun s i W => ∃ (k : Nat) (x : List UInt8), k ≤ l.length ∧ i = .int .i64 k ∧ s = .string ⟨x.toArray⟩ ∧ Hid (x = joinT (l.take k)) ∧ x.length ≤ k * 700 ∧ Mem w W []) (fun _ i _ => l.length - (intOf i).toNat)
  case atStart => exact ⟨0, [], Nat.zero_le _, rfl, rfl, rfl, by simp, M⟩
  case round =>
    obtain ⟨k, x, hk, rfl, rfl, HX, hxl, M⟩ := hrel
    by_cases hlt : k < l.length
    · have hx := List.getElem?_eq_getElem hlt
      obtain ⟨g, rfl, c0⟩ := unhide H k _ hx
      have hm : l[k] ∈ l := List.getElem_mem hlt
      have HS : Hid (joinT (l.take (k + 1)) = (if k = 0 then [] else x ++ [32]) ++ wordT l[k]) := by
        show _ = _
        rw [List.take_add_one, hx]
        by_cases h0 : k = 0
        · subst h0; rw [if_pos rfl]; simp [joinT]
        · rw [if_neg h0, Option.toList_some, joinT_snoc _ _ (by intro e; rcases List.take_eq_nil_iff.1 e with e | e; exact h0 e; rw [e] at hlt; cases hlt), unhide HX, List.append_assoc]; rfl
      have HV3 := hide (unhide V3 _ hm)
      generalize l[k] = y at *
      clear hx hm HX
      by_cases h3 : 300 < y.length
      · have d3 : decide ((300 : Int) < (y.length : Int)) = true := by rw [decide_eq_true_eq]; omega
        have hx := unhide HV3 h3
        subst hx
        go_wp2
        refine bodyPost_ret (by simp [results, Tryz.results10, go_sem]; try rfl) rfl ?_
        exact ⟨rfl, M.below⟩
      · have d3 : decide ((300 : Int) < (y.length : Int)) = false := by rw [decide_eq_false_iff_not]; omega
        have QW := hide (fun W => spec_word ⟨y.toArray⟩ W (by show y.length ≤ 4194304; omega))
        change Hid (∀ W, Calls _ _ _ W fun e w' => e = .returned (.string ⟨(wordT y).toArray⟩) ∧ Below W.heap.size W w') at QW
        have hwl : Hid ((wordT y).length ≤ 660) := by have := wordT_len (l := y) (by omega); show (wordT y).length ≤ 660; omega
        by_cases h0 : k = 0
        · subst h0
          rw [if_pos rfl, List.nil_append] at HS
          have hx0 : Hid (x.length ≤ 0) := hxl
          generalize wordT y = z at *
          have hz := unhide hwl
          have iz : ¬ 9223372036854775807 < x.length + z.length := by have := unhide hx0; omega
          go_wp2_with (refine (unhide QW _).mono ?_; rintro e w5 ⟨rfl, hb⟩)
          obtain rfl : x = [] := List.eq_nil_of_length_eq_zero (by have := unhide hx0; omega)
          refine ⟨⟨1, z, by omega, by go_num, by show Value.string (⟨[].toArray⟩ ++ ⟨z.toArray⟩) = _; rw [ByteArray.mk_append_mk [] z]; rfl, (unhide HS).symm, by omega, Mem.go hb⟩, by simp [intOf]; omega⟩
        · have d0 : decide ((0 : Int) < (k : Int)) = true := by rw [decide_eq_true_eq]; omega
          rw [if_neg h0] at HS
          generalize wordT y = z at *
          have hz := unhide hwl
          have hN := unhide HN
          have iz : ¬ 9223372036854775807 < x.length + 1 + z.length := by omega
          go_wp2_with (refine (unhide QW _).mono ?_; rintro e w5 ⟨rfl, hb⟩)
          refine ⟨⟨k + 1, x ++ [32] ++ z, by omega, by go_num, ?_, (unhide HS).symm, by simp; omega, Mem.go hb⟩, by simp [intOf]; omega⟩
          exact congrArg Value.string ((congrArg (· ++ _) (ByteArray.mk_append_mk x [32])).trans (ByteArray.mk_append_mk (x ++ [32]) z))
    · obtain rfl : k = l.length := by omega
      rw [List.take_length] at HX
      have hN := unhide HN
      have iz : ¬ 9223372036854775807 < x.length + 2 := by omega
      rw [← unhide HX] at V2
      by_cases h3 : x.length + 2 ≤ 300
      · have d3 : decide ((300 : Int) < (x.length : Int) + 2) = false := by rw [decide_eq_false_iff_not]; omega
        have hx := unhide V2
        rw [if_pos h3] at hx
        subst hx
        go_wp2
        refine bodyPost_ret (by simp [results, Tryz.results10, go_sem]; try rfl) rfl ?_
        exact ⟨by unfold cmdT; rw [← ByteArray.mk_append_mk x [13, 10]], M.below⟩
      · have d3 : decide ((300 : Int) < (x.length : Int) + 2) = true := by rw [decide_eq_true_eq]; omega
        have hx := unhide V2
        rw [if_neg h3] at hx
        subst hx
        go_wp2
        refine bodyPost_ret (by simp [results, Tryz.results10, go_sem]; try rfl) rfl ?_
        exact ⟨rfl, M.below⟩
end Go.Proofs.YtjaohlnejkgkaaaGreatDoor
