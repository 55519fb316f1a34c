/- Flags: the program's FlagsText. -/
import Derived.Test.YtgdihceikhkddaaDoorFlagNames
import Derived.Test.YtgdihceikhkddaaDoorRowsA
import Derived.Deep.Slices
namespace Go.Proofs.YtgdihceikhkddaaDoor
open Go.RowKit
open Plain
set_option linter.unusedVariables false

namespace Plain
/-- The names that the lower bits tell. -/
def pickB (b : Int) : Nat → List ByteArray
 | 0 => []
 | k + 1 => if b / 2 ^ k % 2 = 1 then pickB b k ++ [⟨(namesL[k]?.getD []).toArray⟩] else pickB b k
def valsB (l : List ByteArray) : List Value := l.map Value.string
theorem valsB_snoc (l : List ByteArray) (x : ByteArray) : valsB (l ++ [x]) = valsB l ++ [.string x] := by simp [valsB]
theorem pick_len (b : Int) : ∀ k, (pickB b k).length ≤ k := by
 intro k
 induction k with
 | zero => exact Nat.le_refl _
 | succ k ih =>
  rw [pickB]
  split
  ·simp; exact ih
  ·omega
theorem joinI : ∀ b : Fin 32, Lib.join ((pickB b.val 5).map (·.data.toList)) [32] = flTo b.val 5 := by decide +kernel
theorem flTo_small : ∀ b : Fin 32, (flTo b.val 5).length ≤ 60 := by decide +kernel
theorem join_is {b : Int} (h0 : 0 ≤ b) (h1 : b ≤ 31) : Lib.join ((pickB b 5).map (·.data.toList)) [32] = flTo b 5 ∧ (flTo b 5).length ≤ 60 := by
 obtain ⟨x, rfl⟩ := fin_of h0 h1
 exact ⟨joinI x, flTo_small x⟩
end Plain
theorem Tryd.infoStrT : (Tryd.prog.info? 9).map (fun i => (i.zero, i.size, i.bytes)) = some (some (.string ByteArray.empty), 1, 16) := by kernel_rfl
theorem news_strT {w : World} (v : Value) : ∀ j u, ([v] : List Value)[j]? = some u → (w.alloc (.cells #[v] 9)).cell? ((⟨w.heap.size, 0, none⟩ : Addr).add j) = some u := by
 intro j u hj
 match j, hj with
 | 0, hj => simp at hj; subst hj; simp [Addr.add]
/-- Words of one's own, joined by blanks. -/
theorem joinOwn (xs : List ByteArray) (v : Value) (B : Nat) (W : World) (hl : xs.length ≤ 100) (h : W.ownsRow B 9 1 v xs.length (valsB xs)) (hj : (Lib.join (xs.map (·.data.toList)) [32]).length ≤ 1000) :
  Calls Tryd.prog 40 #[v, .string ⟨#[32]⟩] W fun e w' => e = .returned (.string ⟨(Lib.join (xs.map (·.data.toList)) [32]).toArray⟩) ∧ Below W.heap.size W w' := by
 rcases h.2 with ⟨h1, h2⟩ | ⟨g, pc, cur, h1, hg, hh, hnc, hcp, hcs, htake⟩
 ·have e : xs = [] := List.eq_nil_of_length_eq_zero h2
  subst e
  rw [h1]
  exact (Tryd.strings_Join_none none 0 _ W).mono fun e w' he => ⟨he.1, by rw [he.2]; exact Below.refl _ _⟩
 ·subst h1
  refine Tryd.strings_Join g 0 pc xs ⟨#[32]⟩ W (fun j x hx => ?_) (by have := Array.getElem?_eq_some_iff.1 hh; exact this.1) (by omega) (by omega) (Nat.le_trans hj (by decide))
  have hj2 : j < xs.length := (List.getElem?_eq_some_iff.1 hx).1
  have := h.cellAt j (by simpa using hj2)
  rw [Nat.zero_add, this]
  simp [valsB, hx]

set_option maxHeartbeats 4000000 in
set_option maxRecDepth 100000 in
theorem impl_FlagsText_any (b : Int) (w : World) (hN : Named w) :
  Calls Tryd.prog 38 #[.int .i64 b] w fun e w' => e = .returned (.string ⟨(flagsL b).toArray⟩) ∧ Below w.heap.size w w' := by
 have q := impl_FlagsOk_any b w
 cases ho : flOk b with
 | false =>
  have V := hide (flagsL_no ho)
  rw [ho] at q
  have Q := hide q; clear q ho
  go_enter Tryd.func38, Tryd.ntmps38
  go_wp2_with (go_at_call 34; refine (uh Q).mono ?_; rintro e w1 ⟨rfl, hw1⟩; subst w1)
  go_ret
  exact ⟨by rw [uh V]; rfl, Below.refl _ _⟩
 | true =>
  have V := hide (flagsL_in ho)
  rw [ho] at q
  have Q := hide q
  obtain ⟨b0, b1⟩ := flOk_parts ho
  obtain ⟨i0, hi, hz0, hz1, hz2⟩ := info_parts Tryd.infoStrT
  have c0 := hN.cell 0 rfl; have c1 := hN.cell 1 rfl; have c2 := hN.cell 2 rfl; have c3 := hN.cell 3 rfl; have c4 := hN.cell 4 rfl; have PL := hide (pick_len b)
  obtain ⟨j1, j2⟩ := join_is b0 b1
  have J1 := hide j1; have J2 := hide j2; clear q ho j1 j2
  go_enter Tryd.func38, Tryd.ntmps38
  go_wp2_with fail
  refine (uh Q).mono ?_
  rintro e w1 ⟨rfl, hw1⟩
  subst w1
  clear Q
  go_wp2
  go_loopw [3, 10] (fun v i wr => ∃ k : Nat, k ≤ 5 ∧ i = .int .i64 k ∧ wr.ownsRow w.heap.size 9 1 v (pickB b k).length (valsB (pickB b k)) ∧ w.heap.size ≤ wr.heap.size ∧ Below w.heap.size w wr) (fun _ i _ => 5 - (intOf i).toNat)
  case atStart => exact ⟨0, by omega, rfl, World.ownsRow_nil _ _ _ _, Nat.le_refl _, Below.refl _ _⟩
  case round =>
  clear c0 c1 c2 c3 c4
  obtain ⟨k, hk, rfl, hown, hsz, hbel⟩ := hrel
  have pl : (pickB b k).length ≤ 5 := Nat.le_trans (uh PL k) hk
  rcases (show k = 0 ∨ k = 1 ∨ k = 2 ∨ k = 3 ∨ k = 4 ∨ k = 5 by omega) with rfl | rfl | rfl | rfl | rfl | rfl
  ·have ST := hide (show pickB b 1 = if b / 2 ^ 0 % 2 = 1 then pickB b 0 ++ [⟨seenL.toArray⟩] else pickB b 0 from rfl)
   have HQ := hide (has_any b 0 wr b0 b1 (by decide))
   have HV : Hid (hasV b (2 ^ 0) = decide (b / 2 ^ 0 % 2 = 1)) := rfl
   simp only [Int.reducePow] at HQ ST HV
   simp only [show ((0 : Nat) : Int) = 0 from rfl]
   have x0 := name0
   generalize pickB b 0 = X at *
   by_cases h1 : b / 1 % 2 = 1
   ·rw [uh HV, decide_eq_true h1] at HQ
    rw [if_pos h1] at ST
    clear h1 HV; go_wp2_with fail
    refine (uh HQ).mono ?_
    rintro e w1 ⟨rfl, hw1⟩
    subst w1
    have O := hide hown; have BB := hide hbel; clear hown HQ
    go_wp2_with (at_builtin; refine wpList_append_own _ rfl _ _ 46 rfl w.heap.size 9 i0 (.string ByteArray.empty) 1 16 Tryd.underlying46 hi hz0 hz1 hz2 rfl (by decide) _ _ _ rfl ((uh O).alloc _) ⟨wr.heap.size, 0, none⟩ 1 1 [.string ⟨seenL.toArray⟩] rfl rfl (news_strT _) ?c2 ?c3 ?c4 ?c5 ?_)
    case c2 => intro u hu; simp at hu; subst hu; rfl
    case c3 => unfold maxLen; omega
    case c4 => omega
    case c5 => simp; omega
    ·intro v' w3 hown' hgrow _
     have ho1 : w3.ownsRow w.heap.size 9 1 v' (pickB b 1).length (valsB (pickB b 1)) := by
      rw [uh ST, valsB_snoc, List.length_append]
      exact hown'
     have hb3 : Below w.heap.size w w3 := ((uh BB).alloc hsz _).grown hgrow (by simp; omega) (fun j hj => ((uh O).lt j hj).1)
     have hs3 : w.heap.size ≤ w3.heap.size := hb3.size
     have O3 := hide ho1; have B3 := hide hb3; clear hown' hgrow ho1 hb3
     go_wp2
     go_roundw
     case rel => exact ⟨1, by omega, rfl, uh O3, hs3, uh B3⟩
     case measure => decide
   ·rw [uh HV, decide_eq_false h1] at HQ
    rw [if_neg h1] at ST
    clear h1 HV; have O := hide hown; have BB := hide hbel; clear hown hbel; go_wp2_with fail
    refine (uh HQ).mono ?_
    rintro e w1 ⟨rfl, hw1⟩
    subst w1
    clear HQ
    go_wp2
    go_roundw
    case rel => exact ⟨1, by omega, rfl, by rw [uh ST]; exact uh O, hsz, uh BB⟩
    case measure => decide
  ·have ST := hide (show pickB b 2 = if b / 2 ^ 1 % 2 = 1 then pickB b 1 ++ [⟨answL.toArray⟩] else pickB b 1 from rfl)
   have HQ := hide (has_any b 1 wr b0 b1 (by decide))
   have HV : Hid (hasV b (2 ^ 1) = decide (b / 2 ^ 1 % 2 = 1)) := rfl
   simp only [Int.reducePow] at HQ ST HV
   simp only [show ((1 : Nat) : Int) = 1 from rfl]
   have x1 := name1
   generalize pickB b 1 = X at *
   by_cases h1 : b / 2 % 2 = 1
   ·rw [uh HV, decide_eq_true h1] at HQ
    rw [if_pos h1] at ST
    clear h1 HV; go_wp2_with fail
    refine (uh HQ).mono ?_
    rintro e w1 ⟨rfl, hw1⟩
    subst w1
    have O := hide hown; have BB := hide hbel; clear hown HQ
    go_wp2_with (at_builtin; refine wpList_append_own _ rfl _ _ 46 rfl w.heap.size 9 i0 (.string ByteArray.empty) 1 16 Tryd.underlying46 hi hz0 hz1 hz2 rfl (by decide) _ _ _ rfl ((uh O).alloc _) ⟨wr.heap.size, 0, none⟩ 1 1 [.string ⟨answL.toArray⟩] rfl rfl (news_strT _) ?c2 ?c3 ?c4 ?c5 ?_)
    case c2 => intro u hu; simp at hu; subst hu; rfl
    case c3 => unfold maxLen; omega
    case c4 => omega
    case c5 => simp; omega
    ·intro v' w3 hown' hgrow _
     have ho1 : w3.ownsRow w.heap.size 9 1 v' (pickB b 2).length (valsB (pickB b 2)) := by
      rw [uh ST, valsB_snoc, List.length_append]
      exact hown'
     have hb3 : Below w.heap.size w w3 := ((uh BB).alloc hsz _).grown hgrow (by simp; omega) (fun j hj => ((uh O).lt j hj).1)
     have hs3 : w.heap.size ≤ w3.heap.size := hb3.size
     have O3 := hide ho1; have B3 := hide hb3; clear hown' hgrow ho1 hb3
     go_wp2
     go_roundw
     case rel => exact ⟨2, by omega, rfl, uh O3, hs3, uh B3⟩
     case measure => decide
   ·rw [uh HV, decide_eq_false h1] at HQ
    rw [if_neg h1] at ST
    clear h1 HV; have O := hide hown; have BB := hide hbel; clear hown hbel; go_wp2_with fail
    refine (uh HQ).mono ?_
    rintro e w1 ⟨rfl, hw1⟩
    subst w1
    clear HQ
    go_wp2
    go_roundw
    case rel => exact ⟨2, by omega, rfl, by rw [uh ST]; exact uh O, hsz, uh BB⟩
    case measure => decide
  ·have ST := hide (show pickB b 3 = if b / 2 ^ 2 % 2 = 1 then pickB b 2 ++ [⟨flagL.toArray⟩] else pickB b 2 from rfl)
   have HQ := hide (has_any b 2 wr b0 b1 (by decide))
   have HV : Hid (hasV b (2 ^ 2) = decide (b / 2 ^ 2 % 2 = 1)) := rfl
   simp only [Int.reducePow] at HQ ST HV
   simp only [show ((2 : Nat) : Int) = 2 from rfl]
   have x2 := name2
   generalize pickB b 2 = X at *
   by_cases h1 : b / 4 % 2 = 1
   ·rw [uh HV, decide_eq_true h1] at HQ
    rw [if_pos h1] at ST
    clear h1 HV; go_wp2_with fail
    refine (uh HQ).mono ?_
    rintro e w1 ⟨rfl, hw1⟩
    subst w1
    have O := hide hown; have BB := hide hbel; clear hown HQ
    go_wp2_with (at_builtin; refine wpList_append_own _ rfl _ _ 46 rfl w.heap.size 9 i0 (.string ByteArray.empty) 1 16 Tryd.underlying46 hi hz0 hz1 hz2 rfl (by decide) _ _ _ rfl ((uh O).alloc _) ⟨wr.heap.size, 0, none⟩ 1 1 [.string ⟨flagL.toArray⟩] rfl rfl (news_strT _) ?c2 ?c3 ?c4 ?c5 ?_)
    case c2 => intro u hu; simp at hu; subst hu; rfl
    case c3 => unfold maxLen; omega
    case c4 => omega
    case c5 => simp; omega
    ·intro v' w3 hown' hgrow _
     have ho1 : w3.ownsRow w.heap.size 9 1 v' (pickB b 3).length (valsB (pickB b 3)) := by
      rw [uh ST, valsB_snoc, List.length_append]
      exact hown'
     have hb3 : Below w.heap.size w w3 := ((uh BB).alloc hsz _).grown hgrow (by simp; omega) (fun j hj => ((uh O).lt j hj).1)
     have hs3 : w.heap.size ≤ w3.heap.size := hb3.size
     have O3 := hide ho1; have B3 := hide hb3; clear hown' hgrow ho1 hb3
     go_wp2
     go_roundw
     case rel => exact ⟨3, by omega, rfl, uh O3, hs3, uh B3⟩
     case measure => decide
   ·rw [uh HV, decide_eq_false h1] at HQ
    rw [if_neg h1] at ST
    clear h1 HV; have O := hide hown; have BB := hide hbel; clear hown hbel; go_wp2_with fail
    refine (uh HQ).mono ?_
    rintro e w1 ⟨rfl, hw1⟩
    subst w1
    clear HQ
    go_wp2
    go_roundw
    case rel => exact ⟨3, by omega, rfl, by rw [uh ST]; exact uh O, hsz, uh BB⟩
    case measure => decide
  ·have ST := hide (show pickB b 4 = if b / 2 ^ 3 % 2 = 1 then pickB b 3 ++ [⟨deleL.toArray⟩] else pickB b 3 from rfl)
   have HQ := hide (has_any b 3 wr b0 b1 (by decide))
   have HV : Hid (hasV b (2 ^ 3) = decide (b / 2 ^ 3 % 2 = 1)) := rfl
   simp only [Int.reducePow] at HQ ST HV
   simp only [show ((3 : Nat) : Int) = 3 from rfl]
   have x3 := name3
   generalize pickB b 3 = X at *
   by_cases h1 : b / 8 % 2 = 1
   ·rw [uh HV, decide_eq_true h1] at HQ
    rw [if_pos h1] at ST
    clear h1 HV; go_wp2_with fail
    refine (uh HQ).mono ?_
    rintro e w1 ⟨rfl, hw1⟩
    subst w1
    have O := hide hown; have BB := hide hbel; clear hown HQ
    go_wp2_with (at_builtin; refine wpList_append_own _ rfl _ _ 46 rfl w.heap.size 9 i0 (.string ByteArray.empty) 1 16 Tryd.underlying46 hi hz0 hz1 hz2 rfl (by decide) _ _ _ rfl ((uh O).alloc _) ⟨wr.heap.size, 0, none⟩ 1 1 [.string ⟨deleL.toArray⟩] rfl rfl (news_strT _) ?c2 ?c3 ?c4 ?c5 ?_)
    case c2 => intro u hu; simp at hu; subst hu; rfl
    case c3 => unfold maxLen; omega
    case c4 => omega
    case c5 => simp; omega
    ·intro v' w3 hown' hgrow _
     have ho1 : w3.ownsRow w.heap.size 9 1 v' (pickB b 4).length (valsB (pickB b 4)) := by
      rw [uh ST, valsB_snoc, List.length_append]
      exact hown'
     have hb3 : Below w.heap.size w w3 := ((uh BB).alloc hsz _).grown hgrow (by simp; omega) (fun j hj => ((uh O).lt j hj).1)
     have hs3 : w.heap.size ≤ w3.heap.size := hb3.size
     have O3 := hide ho1; have B3 := hide hb3; clear hown' hgrow ho1 hb3
     go_wp2
     go_roundw
     case rel => exact ⟨4, by omega, rfl, uh O3, hs3, uh B3⟩
     case measure => decide
   ·rw [uh HV, decide_eq_false h1] at HQ
    rw [if_neg h1] at ST
    clear h1 HV; have O := hide hown; have BB := hide hbel; clear hown hbel; go_wp2_with fail
    refine (uh HQ).mono ?_
    rintro e w1 ⟨rfl, hw1⟩
    subst w1
    clear HQ
    go_wp2
    go_roundw
    case rel => exact ⟨4, by omega, rfl, by rw [uh ST]; exact uh O, hsz, uh BB⟩
    case measure => decide
  ·have ST := hide (show pickB b 5 = if b / 2 ^ 4 % 2 = 1 then pickB b 4 ++ [⟨drafL.toArray⟩] else pickB b 4 from rfl)
   have HQ := hide (has_any b 4 wr b0 b1 (by decide))
   have HV : Hid (hasV b (2 ^ 4) = decide (b / 2 ^ 4 % 2 = 1)) := rfl
   simp only [Int.reducePow] at HQ ST HV
   simp only [show ((4 : Nat) : Int) = 4 from rfl]
   have x4 := name4
   generalize pickB b 4 = X at *
   by_cases h1 : b / 16 % 2 = 1
   ·rw [uh HV, decide_eq_true h1] at HQ
    rw [if_pos h1] at ST
    clear h1 HV; go_wp2_with fail
    refine (uh HQ).mono ?_
    rintro e w1 ⟨rfl, hw1⟩
    subst w1
    have O := hide hown; have BB := hide hbel; clear hown HQ
    go_wp2_with (at_builtin; refine wpList_append_own _ rfl _ _ 46 rfl w.heap.size 9 i0 (.string ByteArray.empty) 1 16 Tryd.underlying46 hi hz0 hz1 hz2 rfl (by decide) _ _ _ rfl ((uh O).alloc _) ⟨wr.heap.size, 0, none⟩ 1 1 [.string ⟨drafL.toArray⟩] rfl rfl (news_strT _) ?c2 ?c3 ?c4 ?c5 ?_)
    case c2 => intro u hu; simp at hu; subst hu; rfl
    case c3 => unfold maxLen; omega
    case c4 => omega
    case c5 => simp; omega
    ·intro v' w3 hown' hgrow _
     have ho1 : w3.ownsRow w.heap.size 9 1 v' (pickB b 5).length (valsB (pickB b 5)) := by
      rw [uh ST, valsB_snoc, List.length_append]
      exact hown'
     have hb3 : Below w.heap.size w w3 := ((uh BB).alloc hsz _).grown hgrow (by simp; omega) (fun j hj => ((uh O).lt j hj).1)
     have hs3 : w.heap.size ≤ w3.heap.size := hb3.size
     have O3 := hide ho1; have B3 := hide hb3; clear hown' hgrow ho1 hb3
     go_wp2
     go_roundw
     case rel => exact ⟨5, by omega, rfl, uh O3, hs3, uh B3⟩
     case measure => decide
   ·rw [uh HV, decide_eq_false h1] at HQ
    rw [if_neg h1] at ST
    clear h1 HV; have O := hide hown; have BB := hide hbel; clear hown hbel; go_wp2_with fail
    refine (uh HQ).mono ?_
    rintro e w1 ⟨rfl, hw1⟩
    subst w1
    clear HQ
    go_wp2
    go_roundw
    case rel => exact ⟨5, by omega, rfl, by rw [uh ST]; exact uh O, hsz, uh BB⟩
    case measure => decide
  ·simp only [show ((5 : Nat) : Int) = 5 from rfl]
   have JJ := hide (joinOwn (pickB b 5) _ _ _ (by omega) hown (by rw [uh J1]; have := uh J2; omega))
   rw [uh J1] at JJ
   have hbs := hide hbel
   generalize flTo b 5 = T at *
   have E := hide (shut_on T); clear hown hbel; go_wp2_with fail
   refine (uh JJ).mono ?_
   rintro e w1 ⟨rfl, hb1⟩
   have BB := hide ((uh hbs).trans (hb1.mono hsz))
   have lt : T.length ≤ 60 := uh J2
   have hz : (⟨T.toArray⟩ : ByteArray).size ≤ 60 := lt
   clear hb1 JJ J1 J2 hbs
   go_wp2
   go_ret
   exact ⟨by rw [uh V, ← uh E]; rfl, uh BB⟩
end Go.Proofs.YtgdihceikhkddaaDoor
