/- Commands: the specification's CommandText. -/
import Derived.Test.YtjaohlnejkgkaaaDoorCmS
import Derived.Test.YtjaohlnejkgkaaaDoorMemR
namespace Go.Proofs.YtjaohlnejkgkaaaDoor
open Go.RowKit
open Plain
set_option linter.unusedVariables false
set_option linter.unusedSimpArgs false
attribute [local go_sem] cell_of frozen_of

namespace Plain
theorem byteOne (s : ByteArray) (k : Nat) (h : k < s.size) : s.extract k (k + 1) = ⟨#[s[k]]⟩ := by
  apply ByteArray.ext
  apply Array.toList_inj.1
  rw [Lib.extract_data]
  show ((s.data.toList.drop k).take (k + 1 - k)) = [s[k]]
  rw [List.drop_eq_getElem_cons (l := s.data.toList) h, Nat.add_sub_cancel_left]
  rfl
theorem quoted_snoc {l : List UInt8} {k : Nat} {b : UInt8} (h : l[k]? = some b) : (l.take (k + 1)).flatMap quB = (l.take k).flatMap quB ++ quB b := by
  rw [List.take_add_one, h, List.flatMap_append]
  simp
end Plain
def quoteV (l : List UInt8) : Value := if l.all prB then .tuple #[.string ⟨(quoteL l).toArray⟩, .bool true] else .tuple #[.string ⟨#[]⟩, .bool false]
set_option maxHeartbeats 4000000 in
set_option maxRecDepth 100000 in
theorem spec_quoted (s : ByteArray) (w : World) (hs : s.size ≤ 4194304) :
    Calls Tryd.prog 28 #[.string s] w fun e w' => e = .returned (quoteV s.data.toList) ∧ w' = w := by
  have hls : Hid (s.data.toList.length = s.size) := rfl
  go_enter Tryd.func28, Tryd.ntmps28
  go_wp2
  go_loop [4, 5] (fun o i => ∃ (k : Nat) (x : List UInt8), k ≤ s.size ∧ i = .int .i64 k ∧ o = .string ⟨x.toArray⟩ ∧ Hid (x = 34 :: (s.data.toList.take k).flatMap quB) ∧ x.length ≤ 2 * k + 1 ∧ ∀ j c, j < k → s.data.toList[j]? = some c → prB c = true) (fun _ i => s.size - (intOf i).toNat)
  case atStart => exact ⟨0, [34], Nat.zero_le _, rfl, rfl, rfl, by simp, fun j c hj => by omega⟩
  case round =>
    obtain ⟨k, x, hk, rfl, rfl, HX, hxl, hall⟩ := hrel
    have HC := hide hall
    clear hall
    have hxs : (⟨x.toArray⟩ : ByteArray).size ≤ 2 * k + 1 := hxl
    by_cases hlt : k < s.size
    · have hx : s.data.toList[k]? = some s[k] := List.getElem?_eq_getElem (l := s.data.toList) (i := k) hlt
      have NO := hide (fun h => print_no hx h)
      have ON : Hid (prB s[k] = true → ∀ j c, j < k + 1 → s.data.toList[j]? = some c → prB c = true) := fun h j c hj hc => by
        by_cases e : j = k
        · subst e
          rw [hx] at hc
          cases hc
          exact h
        · exact unhide HC j c (by omega) hc
      have XN : Hid (34 :: (s.data.toList.take (k + 1)).flatMap quB = x ++ quB s[k]) := by show _ = _; rw [quoted_snoc hx, unhide HX]; simp
      have EX := hide (byteOne s k hlt)
      have LD : Hid (prB s[k] = (decide (32 ≤ s[k].toNat) && decide (s[k].toNat ≤ 126))) := rfl
      clear hx HC HX
      have i1 : (0 : Int) ≤ (k : Int) := by omega
      have i2 : (k : Int) < (s.size : Int) := by omega
      by_cases h1 : 32 ≤ s[k].toNat
      · have d1 : decide ((s[k].toNat : Int) < 32) = false := by rw [decide_eq_false_iff_not]; omega
        by_cases h2 : s[k].toNat ≤ 126
        · have d2 : decide ((126 : Int) < (s[k].toNat : Int)) = false := by rw [decide_eq_false_iff_not]; omega
          have ok := hide (unhide ON (by rw [unhide LD, decide_eq_true h1, decide_eq_true h2]; rfl))
          clear NO ON LD
          by_cases c1 : s[k] = 34
          · have e1 : ((s[k].toNat : Int) == 34) = true := by rw [c1]; decide
            have QX : Hid (quB s[k] = [92, s[k]]) := if_pos (.inl c1)
            clear c1 h1 h2
            go_wp2
            refine ⟨⟨k + 1, x ++ [92] ++ [s[k]], by omega, by go_num, ?_, by show _ = _; rw [unhide XN, unhide QX]; simp, by simp; omega, unhide ok⟩, by simp [intOf]; omega⟩
            rw [unhide EX]
            exact congrArg Value.string ((congrArg (· ++ _) (ByteArray.mk_append_mk x [92])).trans (ByteArray.mk_append_mk (x ++ [92]) [s[k]]))
          · have e1 : ((s[k].toNat : Int) == 34) = false := byte_ne c1
            by_cases c2 : s[k] = 92
            · have e2 : ((s[k].toNat : Int) == 92) = true := by rw [c2]; decide
              have QX : Hid (quB s[k] = [92, s[k]]) := if_pos (.inr c2)
              clear c1 c2 h1 h2
              go_wp2
              refine ⟨⟨k + 1, x ++ [92] ++ [s[k]], by omega, by go_num, ?_, by show _ = _; rw [unhide XN, unhide QX]; simp, by simp; omega, unhide ok⟩, by simp [intOf]; omega⟩
              rw [unhide EX]
              exact congrArg Value.string ((congrArg (· ++ _) (ByteArray.mk_append_mk x [92])).trans (ByteArray.mk_append_mk (x ++ [92]) [s[k]]))
            · have e2 : ((s[k].toNat : Int) == 92) = false := byte_ne c2
              have QX : Hid (quB s[k] = [s[k]]) := if_neg (by simp [c1, c2])
              clear c1 c2 h1 h2
              go_wp2
              refine ⟨⟨k + 1, x ++ [s[k]], by omega, by go_num, ?_, by show _ = _; rw [unhide XN, unhide QX], by simp; omega, unhide ok⟩, by simp [intOf]; omega⟩
              rw [unhide EX]
              exact congrArg Value.string (ByteArray.mk_append_mk x [s[k]])
        · have d2 : decide ((126 : Int) < (s[k].toNat : Int)) = true := by rw [decide_eq_true_eq]; omega
          have no := hide (unhide NO (by rw [unhide LD, decide_eq_false h2, Bool.and_false]))
          clear ON LD NO h1 h2
          go_wp2
          refine bodyPost_ret (by simp [results, Tryd.results28, go_sem]; try rfl) rfl ?_
          exact ⟨by unfold quoteV; rw [unhide no]; rfl, rfl⟩
      · have d1 : decide ((s[k].toNat : Int) < 32) = true := by rw [decide_eq_true_eq]; omega
        have no := hide (unhide NO (by rw [unhide LD, decide_eq_false h1, Bool.false_and]))
        clear ON LD NO h1
        go_wp2
        refine bodyPost_ret (by simp [results, Tryd.results28, go_sem]; try rfl) rfl ?_
        exact ⟨by unfold quoteV; rw [unhide no]; rfl, rfl⟩
    · have e : k = s.size := by omega
      subst e
      have V : Hid (s.data.toList.all prB = true) := print_yes (fun i c hc => unhide HC i c (by have := (List.getElem?_eq_some_iff.1 hc).1; have h2 := unhide hls; omega) hc)
      have XE : Hid (x ++ [34] = quoteL s.data.toList) := by show _ = _; rw [unhide HX, List.take_of_length_le (by show s.data.toList.length ≤ s.size; exact Nat.le_refl _)]; rfl
      clear HC HX
      go_wp2
      refine bodyPost_ret (by simp [results, Tryd.results28, go_sem]; try rfl) rfl ?_
      refine ⟨?_, rfl⟩
      unfold quoteV
      rw [unhide V, if_pos rfl, ← unhide XE, ← ByteArray.mk_append_mk x [34]]

namespace Plain
theorem listW_no {l : List UInt8} (h : l.length ≤ 1) : listW l = false := by
  cases l with
  | nil => rfl
  | cons b r =>
    obtain rfl : r = [] := by simpa using h
    show (b == 40 && (0 : Int) == ((0 : Nat) : Int) + 1) = false
    simp
theorem listW_is (s : ByteArray) (h : 0 < s.size) : listW s.data.toList = (s[0] == 40 && scanL true 0 1 (s.data.toList.drop 1) == (s.size : Int)) := by
  have hd : s.data.toList = s[0] :: s.data.toList.drop 1 := List.drop_eq_getElem_cons (l := s.data.toList) (i := 0) h
  have hl : ((s.data.toList.drop 1).length : Int) + 1 = (s.size : Int) := by
    rw [List.length_drop]
    show ((s.size - 1 : Nat) : Int) + 1 = _
    omega
  generalize s.data.toList.drop 1 = r at *
  rw [hd]
  show (s[0] == 40 && scanL true 0 1 r == (r.length : Int) + 1) = _
  rw [hl]
theorem lit_text (s : ByteArray) (y : List UInt8) : (⟨#[123]⟩ : ByteArray) ++ ⟨y.toArray⟩ ++ ⟨#[125, 13, 10]⟩ ++ s = ⟨(123 :: (y ++ (125 :: 13 :: 10 :: s.data.toList))).toArray⟩ := by
  apply ByteArray.ext
  apply Array.toList_inj.1
  simp [ByteArray.data_append]
end Plain
set_option maxHeartbeats 8000000 in
set_option maxRecDepth 100000 in
theorem spec_word (s : ByteArray) (w : World) (hs : s.size ≤ 4194304) :
    Calls Tryd.prog 17 #[.string s] w fun e w' => e = .returned (.string ⟨(wordT s.data.toList).toArray⟩) ∧ Below w.heap.size w w' := by
  have Q1 := hide (fun W => spec_plain s W hs)
  have Q3 := hide (fun W => spec_quoted s W hs)
  have Q4 := hide (fun W => spec_Decimal_any (s.size : Int) W (by omega) (by omega))
  have HI : Hid ((Lib.itoa (s.size : Int)).length ≤ 20) := itoa_len (by omega)
  have HW : Hid (wordT s.data.toList = if plainW s.data.toList || listW s.data.toList then s.data.toList else if s.data.toList.all prB then quoteL s.data.toList else 123 :: (Lib.itoa (s.size : Int) ++ (125 :: 13 :: 10 :: s.data.toList))) := rfl
  have HSZ : Hid (s.size ≤ 4194304) := hs
  cases h1 : plainW s.data.toList with
  | true =>
    rw [h1] at Q1
    have V : Hid (wordT s.data.toList = s.data.toList) := by show _ = _; rw [unhide HW, h1]; rfl
    clear h1 Q3 Q4 HW HI
    go_enter Tryd.func17, Tryd.ntmps17
    go_wp2_with (go_at_call 26; refine (unhide Q1 _).mono ?_; rintro e w1 ⟨rfl, hw⟩; subst w1)
    go_ret
    exact ⟨by rw [unhide V]; rfl, Below.refl _ _⟩
  | false =>
    rw [h1] at Q1
    have V : Hid (wordT s.data.toList = if listW s.data.toList then s.data.toList else if s.data.toList.all prB then quoteL s.data.toList else 123 :: (Lib.itoa (s.size : Int) ++ (125 :: 13 :: 10 :: s.data.toList))) := by show _ = _; rw [unhide HW, h1, Bool.false_or]
    clear h1 HW
    by_cases c1 : 1 < s.size
    · have d1 : decide ((1 : Int) < (s.size : Int)) = true := by rw [decide_eq_true_eq]; omega
      have i1 : (0 : Int) < (s.size : Int) := by omega
      have LI := listW_is s (by omega)
      have Q2 := hide (fun W => spec_list s 0 W hs (by omega))
      by_cases c2 : s[0] = 40
      · have d2 : ((s[0].toNat : Int) == 40) = true := by rw [c2]; decide
        rw [c2] at LI
        change _ = (true && _) at LI
        rw [Bool.true_and] at LI
        change Hid (∀ W, Calls _ _ _ W fun e w' => e = .returned (.int .i64 (scanL true 0 1 (s.data.toList.drop 1))) ∧ w' = W) at Q2
        generalize scanL true 0 1 (s.data.toList.drop 1) = z at *
        clear c2
        cases c3 : (z == (s.size : Int)) with
        | true =>
          rw [LI, c3] at V
          have V2 : Hid (wordT s.data.toList = s.data.toList) := by show _ = _; rw [unhide V]; rfl
          clear V LI Q3 Q4 HI
          go_enter Tryd.func17, Tryd.ntmps17
          go_wp2_with (first | (go_at_call 26; refine (unhide Q1 _).mono ?_; rintro e w1 ⟨rfl, hw⟩; subst w1) | (go_at_call 27; refine (unhide Q2 _).mono ?_; rintro e w1 ⟨rfl, hw⟩; subst w1))
          go_ret
          exact ⟨by rw [unhide V2]; rfl, Below.refl _ _⟩
        | false =>
          rw [c3] at LI
          rw [LI, if_neg (by decide)] at V
          cases h3 : s.data.toList.all prB with
          | true =>
            rw [h3] at V
            have V2 : Hid (wordT s.data.toList = quoteL s.data.toList) := V
            rw [show quoteV s.data.toList = .tuple #[.string ⟨(quoteL s.data.toList).toArray⟩, .bool true] from by unfold quoteV; rw [h3]; rfl] at Q3
            generalize quoteL s.data.toList = y at *
            clear V h3 HI LI
            go_enter Tryd.func17, Tryd.ntmps17
            go_wp2_with (first | (go_at_call 26; refine (unhide Q1 _).mono ?_; rintro e w1 ⟨rfl, hw⟩; subst w1) | (go_at_call 27; refine (unhide Q2 _).mono ?_; rintro e w1 ⟨rfl, hw⟩; subst w1) | (go_at_call 28; refine (unhide Q3 _).mono ?_; rintro e w1 ⟨rfl, hw⟩; subst w1) | (go_at_call 29; refine (unhide Q4 _).mono ?_; rintro e w1 ⟨rfl, hb⟩))
            go_ret
            exact ⟨by rw [unhide V2]; rfl, Below.refl _ _⟩
          | false =>
            rw [h3] at V
            have V2 : Hid (wordT s.data.toList = 123 :: (Lib.itoa (s.size : Int) ++ (125 :: 13 :: 10 :: s.data.toList))) := V
            rw [show quoteV s.data.toList = .tuple #[.string ⟨#[]⟩, .bool false] from by unfold quoteV; rw [h3]; rfl] at Q3
            clear V h3 LI
            generalize Lib.itoa (s.size : Int) = y at *
            have hy : y.length ≤ 20 := unhide HI
            have iy1 : ¬ 9223372036854775807 < 1 + y.length := by omega
            have iy2 : ¬ 9223372036854775807 < 1 + y.length + 3 := by omega
            have iy3 : ¬ 9223372036854775807 < 1 + y.length + 3 + s.size := by omega
            go_enter Tryd.func17, Tryd.ntmps17
            go_wp2_with (first | (go_at_call 26; refine (unhide Q1 _).mono ?_; rintro e w1 ⟨rfl, hw⟩; subst w1) | (go_at_call 27; refine (unhide Q2 _).mono ?_; rintro e w1 ⟨rfl, hw⟩; subst w1) | (go_at_call 28; refine (unhide Q3 _).mono ?_; rintro e w1 ⟨rfl, hw⟩; subst w1) | (go_at_call 29; refine (unhide Q4 _).mono ?_; rintro e w1 ⟨rfl, hb⟩))
            go_ret
            refine ⟨?_, hb⟩
            rw [unhide V2]
            exact congrArg (fun x => Ending.returned (Value.string x)) (lit_text s y)
      · have d2 : ((s[0].toNat : Int) == 40) = false := byte_ne c2
        rw [show (s[0] == 40) = false from by simpa using c2, Bool.false_and] at LI
        clear c2 Q2
        rw [LI, if_neg (by decide)] at V
        cases h3 : s.data.toList.all prB with
        | true =>
          rw [h3] at V
          have V2 : Hid (wordT s.data.toList = quoteL s.data.toList) := V
          rw [show quoteV s.data.toList = .tuple #[.string ⟨(quoteL s.data.toList).toArray⟩, .bool true] from by unfold quoteV; rw [h3]; rfl] at Q3
          generalize quoteL s.data.toList = y at *
          clear V h3 HI LI
          go_enter Tryd.func17, Tryd.ntmps17
          go_wp2_with (first | (go_at_call 26; refine (unhide Q1 _).mono ?_; rintro e w1 ⟨rfl, hw⟩; subst w1) | (go_at_call 28; refine (unhide Q3 _).mono ?_; rintro e w1 ⟨rfl, hw⟩; subst w1) | (go_at_call 29; refine (unhide Q4 _).mono ?_; rintro e w1 ⟨rfl, hb⟩))
          go_ret
          exact ⟨by rw [unhide V2]; rfl, Below.refl _ _⟩
        | false =>
          rw [h3] at V
          have V2 : Hid (wordT s.data.toList = 123 :: (Lib.itoa (s.size : Int) ++ (125 :: 13 :: 10 :: s.data.toList))) := V
          rw [show quoteV s.data.toList = .tuple #[.string ⟨#[]⟩, .bool false] from by unfold quoteV; rw [h3]; rfl] at Q3
          clear V h3 LI
          generalize Lib.itoa (s.size : Int) = y at *
          have hy : y.length ≤ 20 := unhide HI
          have iy1 : ¬ 9223372036854775807 < 1 + y.length := by omega
          have iy2 : ¬ 9223372036854775807 < 1 + y.length + 3 := by omega
          have iy3 : ¬ 9223372036854775807 < 1 + y.length + 3 + s.size := by omega
          go_enter Tryd.func17, Tryd.ntmps17
          go_wp2_with (first | (go_at_call 26; refine (unhide Q1 _).mono ?_; rintro e w1 ⟨rfl, hw⟩; subst w1) | (go_at_call 28; refine (unhide Q3 _).mono ?_; rintro e w1 ⟨rfl, hw⟩; subst w1) | (go_at_call 29; refine (unhide Q4 _).mono ?_; rintro e w1 ⟨rfl, hb⟩))
          go_ret
          refine ⟨?_, hb⟩
          rw [unhide V2]
          exact congrArg (fun x => Ending.returned (Value.string x)) (lit_text s y)
    · have d1 : decide ((1 : Int) < (s.size : Int)) = false := by rw [decide_eq_false_iff_not]; omega
      have LI := listW_no (l := s.data.toList) (by show s.size ≤ 1; omega)
      clear c1
      rw [LI, if_neg (by decide)] at V
      cases h3 : s.data.toList.all prB with
      | true =>
        rw [h3] at V
        have V2 : Hid (wordT s.data.toList = quoteL s.data.toList) := V
        rw [show quoteV s.data.toList = .tuple #[.string ⟨(quoteL s.data.toList).toArray⟩, .bool true] from by unfold quoteV; rw [h3]; rfl] at Q3
        generalize quoteL s.data.toList = y at *
        clear V h3 HI LI
        go_enter Tryd.func17, Tryd.ntmps17
        go_wp2_with (first | (go_at_call 26; refine (unhide Q1 _).mono ?_; rintro e w1 ⟨rfl, hw⟩; subst w1) | (go_at_call 28; refine (unhide Q3 _).mono ?_; rintro e w1 ⟨rfl, hw⟩; subst w1) | (go_at_call 29; refine (unhide Q4 _).mono ?_; rintro e w1 ⟨rfl, hb⟩))
        go_ret
        exact ⟨by rw [unhide V2]; rfl, Below.refl _ _⟩
      | false =>
        rw [h3] at V
        have V2 : Hid (wordT s.data.toList = 123 :: (Lib.itoa (s.size : Int) ++ (125 :: 13 :: 10 :: s.data.toList))) := V
        rw [show quoteV s.data.toList = .tuple #[.string ⟨#[]⟩, .bool false] from by unfold quoteV; rw [h3]; rfl] at Q3
        clear V h3 LI
        generalize Lib.itoa (s.size : Int) = y at *
        have hy : y.length ≤ 20 := unhide HI
        have iy1 : ¬ 9223372036854775807 < 1 + y.length := by omega
        have iy2 : ¬ 9223372036854775807 < 1 + y.length + 3 := by omega
        have iy3 : ¬ 9223372036854775807 < 1 + y.length + 3 + s.size := by omega
        go_enter Tryd.func17, Tryd.ntmps17
        go_wp2_with (first | (go_at_call 26; refine (unhide Q1 _).mono ?_; rintro e w1 ⟨rfl, hw⟩; subst w1) | (go_at_call 28; refine (unhide Q3 _).mono ?_; rintro e w1 ⟨rfl, hw⟩; subst w1) | (go_at_call 29; refine (unhide Q4 _).mono ?_; rintro e w1 ⟨rfl, hb⟩))
        go_ret
        refine ⟨?_, hb⟩
        rw [unhide V2]
        exact congrArg (fun x => Ending.returned (Value.string x)) (lit_text s y)
end Go.Proofs.YtjaohlnejkgkaaaDoor
