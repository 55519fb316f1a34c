/- Commands: the program's quotedText and wordText. -/
import Derived.Test.YtjaohlnejkgkaaaDoorCmIL
import Derived.Test.YtjaohlnejkgkaaaDoorDec
namespace Go.Proofs.YtjaohlnejkgkaaaDoor
open Go.RowKit Go.Shelf
open Plain
set_option linter.unusedVariables false
set_option linter.unusedSimpArgs false

/-- The library's bound on what it looks for at once is laid. -/
def HasMax (w : World) : Prop := 0 < w.heap.size ∧ ∃ m, w.cell? ⟨0, 0, none⟩ = some (.int .i64 m)
theorem HasMax.below {w W : World} (h : HasMax w) (hb : Below w.heap.size w W) : HasMax W := by
  obtain ⟨h0, m, hm⟩ := h
  exact ⟨Nat.lt_of_lt_of_le h0 hb.size, m, (hb.cell h0).trans hm⟩
theorem gPowC : Tryd.prog.globalNamed "internal/strconv.uint64pow10" = some 3 := by kernel_rfl
theorem tabC_below {w w1 : World} (h : Below w.heap.size w w1) (ht : Lib.TabIs Tryd.prog w "internal/strconv.uint64pow10" .u64 Lib.pow10Tab) : Lib.TabIs Tryd.prog w1 "internal/strconv.uint64pow10" .u64 Lib.pow10Tab :=
  var?_below h gPowC (World.block_lt_of_cell? w _ (Lib.TabIs.cell ht gPowC 0 (by decide))) ht
namespace Plain
theorem count_len (c : UInt8) (l : List UInt8) : Lib.count l [c] ≤ l.length + 1 := Lib.count_le l [c]
theorem repF_len (c d : UInt8) (l : List UInt8) (h : ([c] == [92, d]) = false) : (Lib.replaceAll l [c] [92, d]).length ≤ 2 * l.length := rep_len c _ l rfl h
theorem quote_text (l : List UInt8) : (⟨#[34]⟩ : ByteArray) ++ ⟨(Lib.replaceAll (Lib.replaceAll l [92] [92, 92]) [34] [92, 34]).toArray⟩ ++ ⟨#[34]⟩ = ⟨(quoteL l).toArray⟩ := by
  rw [rep_both]
  apply ByteArray.ext
  apply Array.ext'
  simp [quoteL]
end Plain
set_option maxHeartbeats 4000000 in
set_option maxRecDepth 100000 in
theorem impl_quoted (s : ByteArray) (w : World) (hs : s.size ≤ 1048576) (hm : HasMax w) :
    Calls Tryd.prog 33 #[.string s] w fun e w' => e = .returned (.string ⟨(quoteL s.data.toList).toArray⟩) ∧ Below w.heap.size w w' := by
  have hl : s.data.toList.length = s.size := rfl
  have c1 := count_len 92 s.data.toList
  have l1 := repF_len 92 92 s.data.toList (by decide)
  have V := hide (quote_text s.data.toList)
  obtain ⟨h0, m, hm1⟩ := id hm
  have Q1 := hide (Tryd.strings_ReplaceAll s ⟨#[92]⟩ ⟨#[92, 92]⟩ m w (by omega) hm1 (by decide) (by show s.size + Lib.count s.data.toList [92] * 2 ≤ _; omega))
  change Hid (Calls _ _ _ _ fun e w' => e = .returned (.string ⟨(Lib.replaceAll s.data.toList [92] [92, 92]).toArray⟩) ∧ Below w.heap.size w w') at Q1
  generalize Lib.replaceAll s.data.toList [92] [92, 92] = r at *
  have c2 := count_len 34 r
  have l2 := repF_len 34 34 r (by decide)
  have Q2 : Hid (∀ W, HasMax W → Calls Tryd.prog 50 #[.string ⟨r.toArray⟩, .string ⟨#[34]⟩, .string ⟨#[92, 34]⟩] W fun e w' => e = .returned (.string ⟨(Lib.replaceAll r [34] [92, 34]).toArray⟩) ∧ Below W.heap.size W w') := by
    intro W hW
    obtain ⟨_, m2, hm2⟩ := hW
    exact Tryd.strings_ReplaceAll ⟨r.toArray⟩ ⟨#[34]⟩ ⟨#[92, 34]⟩ m2 W (by show r.length < _; omega) hm2 (by decide) (by show r.length + Lib.count r [34] * 2 ≤ _; omega)
  generalize Lib.replaceAll r [34] [92, 34] = y at *
  have HM := hide hm
  have iy1 : ¬ 9223372036854775807 < 1 + y.length := by omega
  have iy2 : ¬ 9223372036854775807 < 1 + y.length + 1 := by omega
  clear hm hm1 c1 c2
  go_enter Tryd.func33, Tryd.ntmps33
  go_wp2_with fail
  refine (unhide Q1).mono ?_
  rintro e w1 ⟨rfl, hb1⟩
  have HM1 := hide ((unhide HM).below hb1)
  go_wp2_with fail
  refine (unhide Q2 _ (unhide HM1)).mono ?_
  rintro e w2 ⟨rfl, hb2⟩
  go_wp2
  go_ret
  exact ⟨congrArg (fun x => Ending.returned (Value.string x)) (unhide V), hb1.trans (hb2.mono hb1.size)⟩
set_option maxHeartbeats 4000000 in
set_option maxRecDepth 100000 in
theorem impl_word (s : ByteArray) (w : World) (hs : s.size ≤ 1048576) (hm : HasMax w) (ht : Lib.TabIs Tryd.prog w "internal/strconv.uint64pow10" .u64 Lib.pow10Tab) :
    Calls Tryd.prog 19 #[.string s] w fun e w' => e = .returned (.string ⟨(wordT s.data.toList).toArray⟩) ∧ Below w.heap.size w w' := by
  have Q1 := hide (fun W => impl_plain s W (Nat.le_trans hs (by decide)))
  have Q2 := hide (fun W => impl_isList_any s W hs)
  have Q3 := hide (fun W => impl_prints s W (Nat.le_trans hs (by decide)))
  have Q4 := hide (fun W hW => impl_quoted s W hs hW)
  have Q5 := hide (fun W hW => impl_Decimal_any (s.size : Int) W (by omega) (by omega) hW)
  have HI : Hid ((Lib.itoa (s.size : Int)).length ≤ 20) := itoa_len (by omega)
  have HW : Hid (wordT s.data.toList = if plainW s.data.toList || listW s.data.toList then s.data.toList else if s.data.toList.all prB then quoteL s.data.toList else 123 :: (Lib.itoa (s.size : Int) ++ (125 :: 13 :: 10 :: s.data.toList))) := rfl
  have HM := hide hm
  have HT := hide ht
  clear hm ht
  cases h1 : plainW s.data.toList with
  | true =>
    rw [h1] at Q1
    have V : Hid (wordT s.data.toList = s.data.toList) := by show _ = _; rw [unhide HW, h1]; rfl
    go_enter Tryd.func19, Tryd.ntmps19
    go_wp2_with (go_at_call 30; refine (unhide Q1 _).mono ?_; rintro e w1 ⟨rfl, hw⟩; subst w1)
    go_ret
    exact ⟨by rw [unhide V]; rfl, Below.refl _ _⟩
  | false =>
    rw [h1] at Q1 HW
    cases h2 : listW s.data.toList with
    | true =>
      rw [h2] at Q2
      have V : Hid (wordT s.data.toList = s.data.toList) := by show _ = _; rw [unhide HW, h2]; rfl
      go_enter Tryd.func19, Tryd.ntmps19
      go_wp2_with (first | (go_at_call 30; refine (unhide Q1 _).mono ?_; rintro e w1 ⟨rfl, hw⟩; subst w1) | (go_at_call 31; refine (unhide Q2 _).mono ?_; rintro e w2 ⟨rfl, hb2⟩))
      go_ret
      exact ⟨by rw [unhide V]; rfl, hb2⟩
    | false =>
      rw [h2] at Q2 HW
      have d : ∀ b : Bool, b.toNat = b.toNat := fun _ => rfl
      cases h3 : s.data.toList.all prB with
      | true =>
        rw [h3] at Q3
        have V : Hid (wordT s.data.toList = quoteL s.data.toList) := by show _ = _; rw [unhide HW, h3]; rfl
        generalize quoteL s.data.toList = y at *
        go_enter Tryd.func19, Tryd.ntmps19
        go_wp2_with (first | (go_at_call 30; refine (unhide Q1 _).mono ?_; rintro e w1 ⟨rfl, hw⟩; subst w1) | (go_at_call 31; refine (unhide Q2 _).mono ?_; rintro e w2 ⟨rfl, hb2⟩; have HM2 := hide ((unhide HM).below hb2)) | (go_at_call 32; refine (unhide Q3 _).mono ?_; rintro e w1 ⟨rfl, hw⟩; subst w1) | (go_at_call 33; refine (unhide Q4 _ (unhide HM2)).mono ?_; rintro e w3 ⟨rfl, hb3⟩))
        go_ret
        exact ⟨by rw [unhide V]; rfl, hb2.trans (hb3.mono hb2.size)⟩
      | false =>
        rw [h3] at Q3
        have V : Hid (wordT s.data.toList = 123 :: (Lib.itoa (s.size : Int) ++ (125 :: 13 :: 10 :: s.data.toList))) := by show _ = _; rw [unhide HW, h3]; rfl
        generalize Lib.itoa (s.size : Int) = y at *
        have hy : y.length ≤ 20 := unhide HI
        have iy1 : ¬ 9223372036854775807 < 1 + y.length := by omega
        have iy2 : ¬ 9223372036854775807 < 1 + y.length + 1 := by omega
        have iy3 : ¬ 9223372036854775807 < 1 + y.length + 1 + 2 := by omega
        have iy4 : ¬ 9223372036854775807 < 1 + y.length + 1 + 2 + s.size := by omega
        go_enter Tryd.func19, Tryd.ntmps19
        go_wp2_with (first | (go_at_call 30; refine (unhide Q1 _).mono ?_; rintro e w1 ⟨rfl, hw⟩; subst w1) | (go_at_call 31; refine (unhide Q2 _).mono ?_; rintro e w2 ⟨rfl, hb2⟩; have HT2 := hide (tabC_below hb2 (unhide HT))) | (go_at_call 32; refine (unhide Q3 _).mono ?_; rintro e w1 ⟨rfl, hw⟩; subst w1) | (go_at_call 34; refine (unhide Q5 _ (unhide HT2)).mono ?_; rintro e w3 ⟨rfl, hb3⟩))
        go_ret
        refine ⟨?_, hb2.trans (hb3.mono hb2.size)⟩
        rw [unhide V]
        refine congrArg (fun x => Ending.returned (Value.string x)) ?_
        apply ByteArray.ext
        apply Array.ext'
        simp
end Go.Proofs.YtjaohlnejkgkaaaDoor
