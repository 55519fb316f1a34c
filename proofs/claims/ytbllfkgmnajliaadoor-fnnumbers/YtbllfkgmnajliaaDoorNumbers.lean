/- FnNumbers's walk. -/
import Derived.Test.YtbllfkgmnajliaaDoorNumPlain
import Derived.Test.YtbllfkgmnajliaaDoorDrawWords
import Derived.Test.YtbllfkgmnajliaaDoorVar
import Derived.Test.YtbllfkgmnajliaaDoorRDec
import Derived.Test.YtbllfkgmnajliaaDoorShort
import Derived.Test.YtbllfkgmnajliaaDoorRShort
import Derived.Test.YtbllfkgmnajliaaDoorUnhexImpl
namespace Go.Proofs.YtbllfkgmnajliaaDoor
open Go.RowKit
open Plain
set_option linter.unusedVariables false

def Pows (w : World) : Prop := Lib.TabIs Tryd.prog w "internal/strconv.uint64pow10" .u64 Lib.pow10Tab
theorem gPow : Tryd.prog.globalNamed "internal/strconv.uint64pow10" = some 0 := by kernel_rfl
theorem Pows.below {w w1 : World} (h : Below w.heap.size w w1) (ht : Pows w) : Pows w1 :=
  var?_below h gPow (World.block_lt_of_cell? w _ (Lib.TabIs.cell ht gPow 0 (by decide))) ht

theorem big_any (len cap : Nat) (a : Option Addr) (w : World) (hl : len ≤ 9223372036854775807) :
    Calls Tryd.prog 4 #[.slice a len cap] w fun e w' => e = .returned (.bool (decide ((1048576 : Int) < len))) ∧ w = w' := by
  go_enter Tryd.func4, Tryd.ntmps4
  go_wp2
  go_ret
  exact ⟨rfl, rfl⟩

/-- A number comes back from its bytes and from its figures. -/
theorem num_facts (z : Int) (h0 : 0 ≤ z) (h1 : z ≤ 1000000000) : ∃ V X D : ByteArray, V.size ≤ 11 ∧ (⟨#[120]⟩ : ByteArray) ++ V ++ (⟨#[121]⟩ : ByteArray) = X ∧
    (∀ W, Calls Tryd.prog 6 #[.int .i64 z] W fun e w' => e = .returned (.tuple #[.string V, .bool true]) ∧ Below W.heap.size W w') ∧
    (∀ W, Calls Tryd.prog 7 #[.string X, .int .i64 1] W fun e w' => e = .returned (.tuple #[.int .i64 z, .int .i64 ((V.size : Int) + 1), .bool true]) ∧ W = w') ∧
    (∀ W, Pows W → Calls Tryd.prog 9 #[.int .i64 z] W fun e w' => e = .returned (.string D) ∧ Below W.heap.size W w') ∧
    (∀ W, Pows W → Calls Tryd.prog 8 #[.string D] W fun e w' => e = .returned (.tuple #[.int .i64 z, .bool true]) ∧ Below W.heap.size W w') := by
  obtain ⟨N, rfl⟩ := Int.eq_ofNat_of_zero_le h0
  have hN : N ≤ 1000000000 := by omega
  have hl : (varL N).length ≤ 11 := varL_length N
  have hX : ((⟨#[120]⟩ : ByteArray) ++ ⟨(varL N).toArray⟩ ++ (⟨#[121]⟩ : ByteArray)).data.toList = 120 :: (varL N ++ [121]) := by
    rw [ByteArray.data_append, ByteArray.data_append]; simp
  have hXs : ((⟨#[120]⟩ : ByteArray) ++ ⟨(varL N).toArray⟩ ++ (⟨#[121]⟩ : ByteArray)).size = (varL N).length + 2 := by
    rw [ByteArray.size_append, ByteArray.size_append]
    show 1 + (varL N).length + 1 = _
    omega
  have hD : (⟨(Lib.itoa (N : Int)).toArray⟩ : ByteArray).size ≤ 20 := by
    show (Lib.itoa (N : Int)).length ≤ 20
    rw [itoa_nat]
    by_cases hz : N = 0
    · subst hz; rw [Lib.decDigits, dif_pos (by omega)]; decide
    · rw [← dz_pos hz]; exact dz_len (by omega)
  refine ⟨⟨(varL N).toArray⟩, _, ⟨(Lib.itoa (N : Int)).toArray⟩, hl, rfl, fun W => impl_VarText_yes N W hN, fun W => ?_, fun W hW => impl_Decimal_any N W (by omega) (by omega) hW, fun W hW => ?_⟩
  · have q := impl_ReadVar_in _ 1 W (by rw [hXs]; omega) (by rw [hXs]; omega)
    rw [hX, List.drop_one, List.tail_cons, rd_var N hN] at q
    refine q.mono fun e w' ⟨h1, h2⟩ => ⟨?_, h2⟩
    rw [h1, rvV, Nat.add_comm 1]
    rfl
  · have q := impl_ReadDecimal_any ⟨(Lib.itoa (N : Int)).toArray⟩ W (by omega) hW
    refine q.mono fun e w' ⟨h1, h2⟩ => ⟨?_, h2⟩
    rw [h1]
    exact congrArg Ending.returned (ans_back N hN)

/-- A text comes back from its bytes and from its figures. -/
theorem text_facts (T : ByteArray) (hT : T.size ≤ 300) : ∃ A H : ByteArray, A.size ≤ 400 ∧
    (∀ W, Calls Tryd.prog 11 #[.string T] W fun e w' => e = .returned (.tuple #[.string A, .bool true]) ∧ Below W.heap.size W w') ∧
    (∀ W, Calls Tryd.prog 12 #[.string A, .int .i64 0] W fun e w' => e = .returned (.tuple #[.string T, .int .i64 (A.size : Int), .bool true]) ∧ Below W.heap.size W w') ∧
    (∀ W, Calls Tryd.prog 13 #[.string T] W fun e w' => e = .returned (.tuple #[.string H, .bool true]) ∧ Below W.heap.size W w') ∧
    (∀ W, Calls Tryd.prog 14 #[.string H] W fun e w' => e = .returned (.tuple #[.string T, .bool true]) ∧ Below W.heap.size W w') := by
  have hl : (varL T.size).length ≤ 11 := varL_length _
  have hA : ((⟨(varL T.size).toArray⟩ : ByteArray) ++ T).data.toList = varL T.size ++ T.data.toList := by
    rw [ByteArray.data_append]; simp
  have hAs : ((⟨(varL T.size).toArray⟩ : ByteArray) ++ T).size = (varL T.size).length + T.size := by
    rw [ByteArray.size_append]; rfl
  have hHs : (⟨(hexL T.data.toList).toArray⟩ : ByteArray).size = 2 * T.size := hexL_length _
  refine ⟨⟨(varL T.size).toArray⟩ ++ T, ⟨(hexL T.data.toList).toArray⟩, by rw [hAs]; omega, fun W => impl_ShortText_yes T W (by omega), fun W => ?_, fun W => impl_Hex_yes T W (by omega), fun W => ?_⟩
  · have hr : rvV 0 (rdL 5 [] (((⟨(varL T.size).toArray⟩ : ByteArray) ++ T).data.toList.drop 0)) = .tuple #[.int .i64 (T.size : Int), .int .i64 ((varL T.size).length : Int), .bool true] := by
      rw [List.drop_zero, hA, rd_var _ (by omega), rvV, Nat.zero_add]
    have q := impl_ReadShort_some _ 0 T.size (varL T.size).length W (by rw [hAs]; omega) (Nat.zero_le _) (by omega) (by rw [hAs]; omega) hr
    refine q.mono fun e w' ⟨h1, h2⟩ => ⟨?_, h2⟩
    rw [h1, rsV, if_pos ⟨by omega, by rw [hAs]; omega⟩, hAs]
    have e : ((⟨(varL T.size).toArray⟩ : ByteArray) ++ T).extract (varL T.size).length ((varL T.size).length + T.size) = T := by
      apply ByteArray.ext
      apply Array.ext'
      rw [Lib.extract_data, hA]
      rw [List.drop_left, Nat.add_sub_cancel_left]
      exact List.take_of_length_le (Nat.le_of_eq rfl)
    rw [e]
    simp
  · have q := impl_Unhex_in ⟨(hexL T.data.toList).toArray⟩ W (by rw [hHs]; omega) (by rw [hHs]; omega)
    refine q.mono fun e w' ⟨h1, h2⟩ => ⟨?_, h2⟩
    rw [h1]
    exact congrArg Ending.returned (un_hex T.data.toList)

set_option maxHeartbeats 4000000 in
set_option maxRecDepth 100000 in
theorem numbers_any (len cap : Nat) (a : Option Addr) (w : World) (ha : Arg w.heap.size w a len) (ht : Pows w) :
    Calls Tryd.prog 3 #[.slice a len cap] w fun e w' => e = .returned (.bool true) ∧ Below w.heap.size w w' := by
  have hl := ha.1
  have d0 : decide ((1048576 : Int) < (len : Int)) = false := by simp; omega
  have q0 := big_any len cap a w (by omega)
  rw [d0] at q0
  have q1 := DrawVarText_any w.heap.size len cap a w ha (Nat.le_refl _)
  have q2 := hide (fun W (hb : Below w.heap.size w W) => DrawHex_any w.heap.size len cap a W (ha.below hb) hb.size)
  have HT := hide ht
  clear ha ht d0
  go_enter Tryd.func3, Tryd.ntmps3
  go_wp2_with fail
  refine q0.mono ?_
  rintro e w0 ⟨rfl, rfl⟩
  clear q0
  go_wp2_with fail
  refine q1.mono ?_
  rintro e w1 ⟨z, hz1, hz2, rfl, hb⟩
  clear q1
  by_cases hr : 0 ≤ z ∧ z ≤ 1000000000
  · obtain ⟨hr0, hr1⟩ := hr
    have e1 : decide (z < 0) = false := by simp; omega
    have e2 : decide ((1000000000 : Int) < z) = false := by simp; omega
    obtain ⟨V, X, D, hVs, hX, cV, cX, cD, cR⟩ := num_facts z (by omega) (by omega)
    have cV := hide cV
    have cX := hide cX
    have cD := hide cD
    have cR := hide cR
    go_wp2_with (first
      | (go_at_call 6; refine (unhide cV _).mono ?_; rintro e w2 ⟨rfl, hb2⟩; have hb := below2 hb hb2; clear hb2)
      | (go_at_call 7; refine (unhide cX _).mono ?_; rintro e w3 ⟨rfl, rfl⟩)
      | (go_at_call 9; refine (unhide cD _ ((unhide HT).below hb)).mono ?_; rintro e w4 ⟨rfl, hb4⟩; have hb := below2 hb hb4; clear hb4)
      | (go_at_call 8; refine (unhide cR _ ((unhide HT).below hb)).mono ?_; rintro e w5 ⟨rfl, hb5⟩; have hb := below2 hb hb5; clear hb5))
    refine (unhide q2 _ hb).mono ?_
    rintro e w6 ⟨T, hT, rfl, hb6⟩
    have hb := below2 hb hb6
    clear hb6
    by_cases hT3 : T.size ≤ 300
    · obtain ⟨A, H, hAs, cA, cB, cH, cU⟩ := text_facts T (by first | omega | decide)
      have cA := hide cA
      have cB := hide cB
      have cH := hide cH
      have cU := hide cU
      go_wp2_with (first
        | (go_at_call 11; refine (unhide cA _).mono ?_; rintro e w6 ⟨rfl, hb6⟩; have hb := below2 hb hb6; clear hb6)
        | (go_at_call 12; refine (unhide cB _).mono ?_; rintro e w7 ⟨rfl, hb7⟩; have hb := below2 hb hb7; clear hb7)
        | (go_at_call 13; refine (unhide cH _).mono ?_; rintro e w8 ⟨rfl, hb8⟩; have hb := below2 hb hb8; clear hb8)
        | (go_at_call 14; refine (unhide cU _).mono ?_; rintro e w9 ⟨rfl, hb9⟩; have hb := below2 hb hb9; clear hb9))
      go_ret
      exact ⟨rfl, by assumption⟩
    · obtain ⟨A, H, hAs, cA, cB, cH, cU⟩ := text_facts ⟨#[97, 98, 99]⟩ (by first | omega | decide)
      have cA := hide cA
      have cB := hide cB
      have cH := hide cH
      have cU := hide cU
      go_wp2_with (first
        | (go_at_call 11; refine (unhide cA _).mono ?_; rintro e w6 ⟨rfl, hb6⟩; have hb := below2 hb hb6; clear hb6)
        | (go_at_call 12; refine (unhide cB _).mono ?_; rintro e w7 ⟨rfl, hb7⟩; have hb := below2 hb hb7; clear hb7)
        | (go_at_call 13; refine (unhide cH _).mono ?_; rintro e w8 ⟨rfl, hb8⟩; have hb := below2 hb hb8; clear hb8)
        | (go_at_call 14; refine (unhide cU _).mono ?_; rintro e w9 ⟨rfl, hb9⟩; have hb := below2 hb hb9; clear hb9))
      go_ret
      exact ⟨rfl, by assumption⟩
  · by_cases hz0 : z < 0
    · have e1 : decide (z < 0) = true := by simp; omega
      obtain ⟨V, X, D, hVs, hX, cV, cX, cD, cR⟩ := num_facts 12345 (by omega) (by omega)
      have cV := hide cV
      have cX := hide cX
      have cD := hide cD
      have cR := hide cR
      go_wp2_with (first
        | (go_at_call 6; refine (unhide cV _).mono ?_; rintro e w2 ⟨rfl, hb2⟩; have hb := below2 hb hb2; clear hb2)
        | (go_at_call 7; refine (unhide cX _).mono ?_; rintro e w3 ⟨rfl, rfl⟩)
        | (go_at_call 9; refine (unhide cD _ ((unhide HT).below hb)).mono ?_; rintro e w4 ⟨rfl, hb4⟩; have hb := below2 hb hb4; clear hb4)
        | (go_at_call 8; refine (unhide cR _ ((unhide HT).below hb)).mono ?_; rintro e w5 ⟨rfl, hb5⟩; have hb := below2 hb hb5; clear hb5))
      refine (unhide q2 _ hb).mono ?_
      rintro e w6 ⟨T, hT, rfl, hb6⟩
      have hb := below2 hb hb6
      clear hb6
      by_cases hT3 : T.size ≤ 300
      · obtain ⟨A, H, hAs, cA, cB, cH, cU⟩ := text_facts T (by first | omega | decide)
        have cA := hide cA
        have cB := hide cB
        have cH := hide cH
        have cU := hide cU
        go_wp2_with (first
          | (go_at_call 11; refine (unhide cA _).mono ?_; rintro e w6 ⟨rfl, hb6⟩; have hb := below2 hb hb6; clear hb6)
          | (go_at_call 12; refine (unhide cB _).mono ?_; rintro e w7 ⟨rfl, hb7⟩; have hb := below2 hb hb7; clear hb7)
          | (go_at_call 13; refine (unhide cH _).mono ?_; rintro e w8 ⟨rfl, hb8⟩; have hb := below2 hb hb8; clear hb8)
          | (go_at_call 14; refine (unhide cU _).mono ?_; rintro e w9 ⟨rfl, hb9⟩; have hb := below2 hb hb9; clear hb9))
        go_ret
        exact ⟨rfl, by assumption⟩
      · obtain ⟨A, H, hAs, cA, cB, cH, cU⟩ := text_facts ⟨#[97, 98, 99]⟩ (by first | omega | decide)
        have cA := hide cA
        have cB := hide cB
        have cH := hide cH
        have cU := hide cU
        go_wp2_with (first
          | (go_at_call 11; refine (unhide cA _).mono ?_; rintro e w6 ⟨rfl, hb6⟩; have hb := below2 hb hb6; clear hb6)
          | (go_at_call 12; refine (unhide cB _).mono ?_; rintro e w7 ⟨rfl, hb7⟩; have hb := below2 hb hb7; clear hb7)
          | (go_at_call 13; refine (unhide cH _).mono ?_; rintro e w8 ⟨rfl, hb8⟩; have hb := below2 hb hb8; clear hb8)
          | (go_at_call 14; refine (unhide cU _).mono ?_; rintro e w9 ⟨rfl, hb9⟩; have hb := below2 hb hb9; clear hb9))
        go_ret
        exact ⟨rfl, by assumption⟩
    · have e1 : decide (z < 0) = false := by simp; omega
      have e2 : decide ((1000000000 : Int) < z) = true := by simp; omega
      obtain ⟨V, X, D, hVs, hX, cV, cX, cD, cR⟩ := num_facts 12345 (by omega) (by omega)
      have cV := hide cV
      have cX := hide cX
      have cD := hide cD
      have cR := hide cR
      go_wp2_with (first
        | (go_at_call 6; refine (unhide cV _).mono ?_; rintro e w2 ⟨rfl, hb2⟩; have hb := below2 hb hb2; clear hb2)
        | (go_at_call 7; refine (unhide cX _).mono ?_; rintro e w3 ⟨rfl, rfl⟩)
        | (go_at_call 9; refine (unhide cD _ ((unhide HT).below hb)).mono ?_; rintro e w4 ⟨rfl, hb4⟩; have hb := below2 hb hb4; clear hb4)
        | (go_at_call 8; refine (unhide cR _ ((unhide HT).below hb)).mono ?_; rintro e w5 ⟨rfl, hb5⟩; have hb := below2 hb hb5; clear hb5))
      refine (unhide q2 _ hb).mono ?_
      rintro e w6 ⟨T, hT, rfl, hb6⟩
      have hb := below2 hb hb6
      clear hb6
      by_cases hT3 : T.size ≤ 300
      · obtain ⟨A, H, hAs, cA, cB, cH, cU⟩ := text_facts T (by first | omega | decide)
        have cA := hide cA
        have cB := hide cB
        have cH := hide cH
        have cU := hide cU
        go_wp2_with (first
          | (go_at_call 11; refine (unhide cA _).mono ?_; rintro e w6 ⟨rfl, hb6⟩; have hb := below2 hb hb6; clear hb6)
          | (go_at_call 12; refine (unhide cB _).mono ?_; rintro e w7 ⟨rfl, hb7⟩; have hb := below2 hb hb7; clear hb7)
          | (go_at_call 13; refine (unhide cH _).mono ?_; rintro e w8 ⟨rfl, hb8⟩; have hb := below2 hb hb8; clear hb8)
          | (go_at_call 14; refine (unhide cU _).mono ?_; rintro e w9 ⟨rfl, hb9⟩; have hb := below2 hb hb9; clear hb9))
        go_ret
        exact ⟨rfl, by assumption⟩
      · obtain ⟨A, H, hAs, cA, cB, cH, cU⟩ := text_facts ⟨#[97, 98, 99]⟩ (by first | omega | decide)
        have cA := hide cA
        have cB := hide cB
        have cH := hide cH
        have cU := hide cU
        go_wp2_with (first
          | (go_at_call 11; refine (unhide cA _).mono ?_; rintro e w6 ⟨rfl, hb6⟩; have hb := below2 hb hb6; clear hb6)
          | (go_at_call 12; refine (unhide cB _).mono ?_; rintro e w7 ⟨rfl, hb7⟩; have hb := below2 hb hb7; clear hb7)
          | (go_at_call 13; refine (unhide cH _).mono ?_; rintro e w8 ⟨rfl, hb8⟩; have hb := below2 hb hb8; clear hb8)
          | (go_at_call 14; refine (unhide cU _).mono ?_; rintro e w9 ⟨rfl, hb9⟩; have hb := below2 hb hb9; clear hb9))
        go_ret
        exact ⟨rfl, by assumption⟩

theorem numbers_big (len cap : Nat) (a : Option Addr) (w : World) (hl : 1048576 < len) (hl2 : len ≤ 9223372036854775807) :
    Calls Tryd.prog 3 #[.slice a len cap] w fun e w' => e = .returned (.bool true) ∧ Below w.heap.size w w' := by
  have d0 : decide ((1048576 : Int) < (len : Int)) = true := by simp; omega
  have q0 := big_any len cap a w hl2
  rw [d0] at q0
  clear d0
  go_enter Tryd.func3, Tryd.ntmps3
  go_wp2_with (go_at_call 4; refine q0.mono ?_; rintro e w0 ⟨rfl, rfl⟩)
  go_ret
  exact ⟨rfl, Below.refl _ _⟩
end Go.Proofs.YtbllfkgmnajliaaDoor
