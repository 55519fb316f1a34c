/- Commands: CmDrw2, CmDrw3, RcG3, CmDrw4 in one text. -/
import Derived.Test.YtjaohlnejkgkaaaGreatDoorCmDraw
import Derived.Test.YtjaohlnejkgkaaaGreatDoorRcGA
namespace Go.Proofs.YtjaohlnejkgkaaaGreatDoor
open Go.RowKit
open Plain
set_option linter.unusedVariables false
set_option linter.unusedSimpArgs false
attribute [local go_sem] cell_of frozen_of

namespace Plain
theorem bv_long (n : Nat) (x : UInt8) (k : Nat) (h : k < n) : (bv (List.replicate k x ++ List.replicate (n - k) 0)).set k (.int .u8 (x.toNat : Int)) = bv (List.replicate (k + 1) x ++ List.replicate (n - (k + 1)) 0) := by
  have e : n - k = (n - (k + 1)) + 1 := by omega
  unfold bv
  rw [e, List.map_append, List.map_append, List.set_append_right _ _ (by simp), List.length_map, List.length_replicate, Nat.sub_self, List.replicate_succ, List.map_cons, List.set_cons_zero]
  rw [List.replicate_succ' (n := k)]
  simp
theorem bv_len2 (n k : Nat) (x : UInt8) (h : k ≤ n) : (bv (List.replicate k x ++ List.replicate (n - k) 0)).length = n := by rw [bv_length]; simp; omega
end Plain
set_option maxHeartbeats 4000000 in
set_option maxRecDepth 100000 in
theorem long_any (n : Nat) (x : UInt8) (w : World) (hn : n ≤ 100000) :
    Calls Tryz.prog 17 #[.int .i64 n, .int .u8 (x.toNat : Int)] w fun e w' => e = .returned (.string ⟨(List.replicate n x).toArray⟩) ∧ Below w.heap.size w w' := by
  obtain ⟨i0, hi, hz0, hz1, hz2⟩ := info_parts Tryz.infoU8C
  have M := Mem.start w
  go_enter Tryz.func17, Tryz.ntmps17
  go_wp2_with (refine wpList_make_full _ rfl _ _ 22 rfl _ 5 i0 _ 1 Tryz.underlying22 hi hz0 hz1 _ _ _ _ n rfl rfl (by omega) (by omega) (by rw [hz2]; omega) (by unfold maxLen; omega) (Nat.le_refl _) ?_; intro wm hown hgm; have M := Mem.then (Mem.of_row hown (g_below hgm)))
  have hmade : (madeCells (Value.int IntKind.u8 0).cells (n * 1)).toList = bv (List.replicate 0 x ++ List.replicate (n - 0) 0) := by
    rw [Nat.mul_one]
    show (madeCells #[.int .u8 0] n).toList = _
    rw [toList_madeCells_one]
    simp [bv]
  rw [hmade] at M
  clear hmade hown hgm hi hz0 hz1 hz2
  go_wp2
  go_loopw [6] (fun i W => ∃ k : Nat, k ≤ n ∧ i = .int .i64 k ∧ Mem w W [.row (some ⟨w.heap.size, 0, none⟩) n n 5 1 (bv (List.replicate k x ++ List.replicate (n - k) 0))]) (fun i _ => n - (intOf i).toNat)
  case atStart => exact ⟨0, Nat.zero_le _, rfl, Mem.end⟩
  clear M
  case round =>
    obtain ⟨k, hk, rfl, M⟩ := hrel
    by_cases hlt : k < n
    · have HS := hide (bv_long n x k hlt)
      obtain ⟨y0, el⟩ := Elt.some (xs := bv (List.replicate k x ++ List.replicate (n - k) 0)) (j := k) (by rw [bv_len2 n k x hk]; exact hlt)
      have i1 : (0 : Int) ≤ (k : Int) := by omega
      have i2 : (k : Int) < (n : Int) := by omega
      go_wp2
      go_roundw
      case rel => exact ⟨k + 1, by omega, by go_num, by rw [← unhide HS]; exact Mem.end⟩
      case measure => simp [intOf]; omega
    · obtain rfl : k = n := by omega
      have hb : List.replicate k x ++ List.replicate (k - k) 0 = List.replicate k x := by simp
      rw [hb] at M
      have CV := conv_mem (W := wr) (ab := some ⟨w.heap.size, 0, none⟩) (n := k) (cb := k) (List.replicate k x) (by simp)
      go_wp2
      go_ret
      exact ⟨rfl, M.below⟩
theorem text_mem {w W : World} {c : Nat} {cs : List Value} {L R : List Pc} (n : Nat) (ho : CurOk w cs) (h1 : n ≤ 5000) [M : Mem w W L] [hr : Rem L (.obj c 49 cs) R] :
    Calls Tryz.prog 27 #[.pointer (some ⟨c, 0, none⟩), .int .i64 n] W fun e W' => ∃ (t : List UInt8) (cs' : List Value), t.length = n ∧ e = .returned (.string ⟨t.toArray⟩) ∧ CurOk w cs' ∧ Mem w W' (.obj c 49 cs' :: R) := by
  have M1 := M.perm hr.out
  obtain ⟨B, hB, hc⟩ := ho.cur M1
  refine (l01Text_any B c n W hc h1).mono ?_
  rintro e W' ⟨x, hx, rfl, hc1, hg⟩
  obtain ⟨cs', h2, M2⟩ := cur_moved hB M1 hc1 hg
  exact ⟨x, cs', hx, rfl, h2, M2⟩
namespace Plain
/-- A text that was spoilt, or not. -/
def Spoilt (s r : List UInt8) : Prop := r = s ∨ (∃ b, r = s ++ [b]) ∨ (∃ k, k ≤ s.length ∧ r = s.take k) ∨ (∃ k b, k < s.length ∧ r = s.take k ++ [b] ++ s.drop (k + 1))
theorem one_byte {t : List UInt8} (h : t.length = 1) : ∃ b, t = [b] := by
  match t, h with
  | [b], _ => exact ⟨b, rfl⟩
theorem ext_text2 (s : List UInt8) (a b : Nat) : (⟨s.toArray⟩ : ByteArray).extract a b = ⟨((s.drop a).take (b - a)).toArray⟩ := ext_text ⟨s.toArray⟩ a b
end Plain
set_option maxHeartbeats 4000000 in
set_option maxRecDepth 100000 in
theorem spoilt_mem {w W : World} {c : Nat} {cs : List Value} {L R : List Pc} (t : List UInt8) (ht : t.length ≤ 1000) (ho : CurOk w cs) [M : Mem w W L] [hr : Rem L (.obj c 49 cs) R] :
    Calls Tryz.prog 16 #[.pointer (some ⟨c, 0, none⟩), .string ⟨t.toArray⟩] W fun e W' => ∃ (r : List UInt8) (cs' : List Value), Spoilt t r ∧ e = .returned (.string ⟨r.toArray⟩) ∧ CurOk w cs' ∧ Mem w W' (.obj c 49 cs' :: R) := by
  have HO0 := hide ho
  have M := M.perm hr.out
  clear ho
  go_enter Tryz.func16, Tryz.ntmps16
  go_wp2_with fail
  refine (below_mem 12 (unhide HO0) (by decide) (by decide)).mono ?_
  rintro e w1 ⟨x1, cs1, hx1, rfl, ho, M⟩
  have HO1 := hide ho
  clear ho
  rcases (show x1 = 0 ∨ x1 = 1 ∨ x1 = 2 ∨ x1 = 3 ∨ 4 ≤ x1 by omega) with rfl | rfl | rfl | rfl | h4
  · go_wp2_with fail
    refine (text_mem 1 (unhide HO1) (by decide)).mono ?_
    rintro e w2 ⟨y2, cs2, hy, rfl, ho, M⟩
    have HO2 := hide ho
    clear ho
    obtain ⟨b, rfl⟩ := one_byte hy
    have il0 : ¬ 9223372036854775807 < t.length + 1 := by omega
    have il1 : ¬ 9223372036854775807 < t.length + [b].length := by simp; omega
    go_wp2
    go_ret
    exact ⟨t ++ [b], _, .inr (.inl ⟨b, rfl⟩), rfl, unhide HO2, Mem.fin⟩
  · have wl : IntKind.i64.wrap ((t.length : Int) + 1) = ((t.length + 1 : Nat) : Int) := by rw [IntKind.wrap_i64]; omega
    go_wp2_with fail
    try rw [show (t.length : Int) + 1 = ((t.length + 1 : Nat) : Int) from rfl]
    refine (below_mem (t.length + 1) (unhide HO1) (by omega) (by omega)).mono ?_
    rintro e w2 ⟨i, cs2, hi, rfl, ho, M⟩
    have HO2 := hide ho
    clear ho
    have i1 : (0 : Int) ≤ (i : Int) := by omega
    have i2 : (i : Int) ≤ (t.length : Int) := by omega
    have i3 : i ≤ t.length := by omega
    have eX := hide (ext_text2 t 0 i)
    go_wp2
    go_ret
    exact ⟨t.take i, _, .inr (.inr (.inl ⟨i, i3, rfl⟩)), by rw [unhide eX]; rfl, unhide HO2, Mem.fin⟩
  · by_cases h0 : 0 < t.length
    · have d0 : decide ((0 : Int) < (t.length : Int)) = true := decide_eq_true (by omega)
      go_wp2_with fail
      try rw [show (t.length : Int) + 1 = ((t.length + 1 : Nat) : Int) from rfl]
      refine (below_mem (t.length) (unhide HO1) (by omega) (by omega)).mono ?_
      rintro e w2 ⟨i, cs2, hi, rfl, ho, M⟩
      have HO2 := hide ho
      clear ho
      have i1 : (0 : Int) ≤ (i : Int) := by omega
      have i2 : (i : Int) ≤ (t.length : Int) := by omega
      have i3 : i ≤ t.length := by omega
      have i4 : (i : Int) + 1 ≤ (t.length : Int) := by omega
      have i5 : i + 1 ≤ t.length := by omega
      have i6 : (0 : Int) ≤ (i : Int) + 1 := by omega
      have w7 : IntKind.i64.wrap ((i : Int) + 1) = (i : Int) + 1 := by rw [IntKind.wrap_i64]; omega
      obtain ⟨A, hA⟩ : ∃ A, A = t.take i := ⟨_, rfl⟩
      obtain ⟨D, hD⟩ : ∃ D, D = t.drop (i + 1) := ⟨_, rfl⟩
      have eX : (⟨t.toArray⟩ : ByteArray).extract 0 i = ⟨A.toArray⟩ := by rw [ext_text2, hA]; rfl
      have eY : (⟨t.toArray⟩ : ByteArray).extract (i + 1) t.length = ⟨D.toArray⟩ := by rw [ext_text2, hD, List.take_of_length_le (by rw [List.length_drop]; omega)]
      have lA : A.length ≤ 1000 := by rw [hA, List.length_take]; omega
      have lD : D.length ≤ 1000 := by rw [hD, List.length_drop]; omega
      have HA := hide hA
      have HD := hide hD
      clear hA hD
      have s1 : ¬ 9223372036854775807 < A.length + 1 := by omega
      have s2 : ¬ 9223372036854775807 < A.length + 1 + D.length := by omega
      go_wp2
      refine mbr (.obj c 49 cs2) 12 (fun M => ?_)
      refine tm 0 33 ?_; refine tm 1 34 ?_; refine tm 2 35 ?_; refine tm 3 36 ?_
      refine tm 6 39 ?_; refine tm 7 40 ?_; refine tm 8 41 ?_; refine tm 9 42 ?_
      refine tc 4 37 (text_mem 1 (unhide HO2) (by decide)) ?_
      rintro e w9 ⟨y, cs9, hy, rfl, ho, M⟩
      obtain ⟨b, rfl⟩ := one_byte hy
      have HO9 := hide ho
      clear ho hy
      refine tce ?_
      refine tm 5 38 ?_; refine tm 10 43 ?_; refine tm 11 4 ?_
      refine td ?_
      go_wp2
      go_ret
      exact ⟨t.take i ++ [b] ++ t.drop (i + 1), _, .inr (.inr (.inr ⟨i, b, by omega, rfl⟩)), by rw [← unhide HA, ← unhide HD]; rfl, unhide HO9, Mem.fin⟩
    · have d0 : decide ((0 : Int) < (t.length : Int)) = false := decide_eq_false (by omega)
      go_wp2
      go_ret
      exact ⟨t, _, .inl rfl, rfl, unhide HO1, Mem.fin⟩
  · by_cases h0 : 0 < t.length
    · have d0 : decide ((0 : Int) < (t.length : Int)) = true := decide_eq_true (by omega)
      go_wp2_with fail
      try rw [show (t.length : Int) + 1 = ((t.length + 1 : Nat) : Int) from rfl]
      refine (below_mem (t.length) (unhide HO1) (by omega) (by omega)).mono ?_
      rintro e w2 ⟨i, cs2, hi, rfl, ho, M⟩
      have HO2 := hide ho
      clear ho
      have i1 : (0 : Int) ≤ (i : Int) := by omega
      have i2 : (i : Int) ≤ (t.length : Int) := by omega
      have i3 : i ≤ t.length := by omega
      have i4 : (i : Int) + 1 ≤ (t.length : Int) := by omega
      have i5 : i + 1 ≤ t.length := by omega
      have i6 : (0 : Int) ≤ (i : Int) + 1 := by omega
      have w7 : IntKind.i64.wrap ((i : Int) + 1) = (i : Int) + 1 := by rw [IntKind.wrap_i64]; omega
      obtain ⟨A, hA⟩ : ∃ A, A = t.take i := ⟨_, rfl⟩
      obtain ⟨D, hD⟩ : ∃ D, D = t.drop (i + 1) := ⟨_, rfl⟩
      have eX : (⟨t.toArray⟩ : ByteArray).extract 0 i = ⟨A.toArray⟩ := by rw [ext_text2, hA]; rfl
      have eY : (⟨t.toArray⟩ : ByteArray).extract (i + 1) t.length = ⟨D.toArray⟩ := by rw [ext_text2, hD, List.take_of_length_le (by rw [List.length_drop]; omega)]
      have lA : A.length ≤ 1000 := by rw [hA, List.length_take]; omega
      have lD : D.length ≤ 1000 := by rw [hD, List.length_drop]; omega
      have HA := hide hA
      have HD := hide hD
      clear hA hD
      have s1 : ¬ 9223372036854775807 < A.length + 1 := by omega
      have s2 : ¬ 9223372036854775807 < A.length + 1 + D.length := by omega
      go_wp2
      refine mbr (.obj c 49 cs2) 12 (fun M => ?_)
      refine tm 0 33 ?_; refine tm 1 34 ?_; refine tm 2 35 ?_; refine tm 3 36 ?_
      refine tm 6 39 ?_; refine tm 7 40 ?_; refine tm 8 41 ?_; refine tm 9 42 ?_
      refine tc 4 37 (text_mem 1 (unhide HO2) (by decide)) ?_
      rintro e w9 ⟨y, cs9, hy, rfl, ho, M⟩
      obtain ⟨b, rfl⟩ := one_byte hy
      have HO9 := hide ho
      clear ho hy
      refine tce ?_
      refine tm 5 38 ?_; refine tm 10 43 ?_; refine tm 11 4 ?_
      refine td ?_
      go_wp2
      go_ret
      exact ⟨t.take i ++ [b] ++ t.drop (i + 1), _, .inr (.inr (.inr ⟨i, b, by omega, rfl⟩)), by rw [← unhide HA, ← unhide HD]; rfl, unhide HO9, Mem.fin⟩
    · have d0 : decide ((0 : Int) < (t.length : Int)) = false := decide_eq_false (by omega)
      go_wp2
      go_ret
      exact ⟨t, _, .inl rfl, rfl, unhide HO1, Mem.fin⟩
  · have n0 : ((x1 : Int) == 0) = false := beq_eq_false_iff_ne.2 (by omega)
    have n1 : ((x1 : Int) == 1) = false := beq_eq_false_iff_ne.2 (by omega)
    have n2 : ((x1 : Int) == 2) = false := beq_eq_false_iff_ne.2 (by omega)
    have n3 : ((x1 : Int) == 3) = false := beq_eq_false_iff_ne.2 (by omega)
    go_wp2
    go_ret
    exact ⟨t, _, .inl rfl, rfl, unhide HO1, Mem.fin⟩
end Go.Proofs.YtjaohlnejkgkaaaGreatDoor
namespace Go.Proofs.YtjaohlnejkgkaaaGreatDoor
open Go.RowKit
open Plain
set_option linter.unusedVariables false
set_option linter.unusedSimpArgs false
attribute [local go_sem] cell_of frozen_of

/-- Drawn words, some of them long. -/
def AnyM (w : World) (c : Nat) (R : List Pc) (e : Ending) (W' : World) : Prop := ∃ (l : List (List UInt8)) (b : Option Addr) (cap : Nat) (cs' : List Value), l.length ≤ 30 ∧ (∀ x ∈ l, x.length ≤ 400) ∧ e = .returned (.slice b l.length cap) ∧ CurOk w cs' ∧ Mem w W' (.row b l.length cap 9 1 (strs l) :: .obj c 49 cs' :: R)
def sliceN : Value → Nat
  | .slice _ n _ => n
  | _ => 0
set_option maxHeartbeats 4000000 in
set_option maxRecDepth 100000 in
theorem any_mem {w W : World} {c : Nat} {cs : List Value} {L R : List Pc} (ho : CurOk w cs) [M : Mem w W L] [hr : Rem L (.obj c 49 cs) R] :
    Calls Tryz.prog 15 #[.pointer (some ⟨c, 0, none⟩)] W fun e W' => AnyM w c R e W' := by
  have HO0 := hide ho
  have M := M.perm hr.out
  clear ho
  go_enter Tryz.func15, Tryz.ntmps15
  go_wp2_with fail
  refine (below_mem 12 (unhide HO0) (by decide) (by decide)).mono ?_
  rintro e w1 ⟨x1, cs1, hx1, rfl, ho, M⟩
  have HO1 := hide ho
  clear ho
  rcases (show x1 = 0 ∨ x1 = 1 ∨ x1 = 2 ∨ x1 = 3 ∨ 4 ≤ x1 by omega) with rfl | rfl | rfl | rfl | h4
  · go_wp2_with fail
    refine (words_mem (unhide HO1)).mono ?_
    rintro e w2 ⟨l, g0, cap, cs2, l0, l20, hlx, rfl, ho, M⟩
    have HO2 := hide ho
    have HLX := hide (fun (x : List UInt8) (hx : x ∈ l) => Nat.le_trans (hlx x hx) (show (300 : Nat) ≤ 400 by decide))
    clear ho hlx
    have M := Mem.asRow (w := w) (W := w2) (b := w1.heap.size) (t := 9) 1
    try dsimp only at M
    go_wp2_with (refine mem_append_rw rfl (.tmp 7) (.tmp 9) 25 [] g0 l.length (strs l) rfl rfl rfl (by intro u hu; unfold strs at hu; obtain ⟨x, _, rfl⟩ := List.mem_map.1 hu; simp [Value.oneCell']) (by rw [strs_length, Nat.mul_one]) (by omega) l0 (by decide) ?_; intro g2 cap2 w3 M; try dsimp only at M)
    rw [List.nil_append, Nat.zero_add] at M
    refine (pick_mem [[], [97, 32, 98], [113, 34, 92, 113], [40, 97], [40, 97, 32, 98, 41], [40, 32, 97, 41], [1, 10], [123, 51, 125], [40, 41]] (unhide HO2) rfl (by decide) (by decide) rfl).mono ?_
    rintro e w3 ⟨z, cs3, hz, rfl, ho, M⟩
    have HZ : z.length ≤ 10 := (show ∀ z ∈ ([[], [97, 32, 98], [113, 34, 92, 113], [40, 97], [40, 97, 32, 98, 41], [40, 32, 97, 41], [1, 10], [123, 51, 125], [40, 41]] : List (List UInt8)), z.length ≤ 10 by decide) z hz
    have HO3 := hide ho
    clear ho hz
    have HS : Hid (strs l ++ [.string ⟨z.toArray⟩] = strs (l ++ [z])) := (strs_append l [z]).symm
    have HN : Hid ((l ++ [z]).length = l.length + 1) := by show _ = _; simp
    go_wp2_with (refine mem_append_l rfl (.tmp 14) (.tmp 18) 25 (strs l) _ [.string ⟨z.toArray⟩] rfl rfl rfl (by simp [Value.oneCell']) (by rfl) (by omega) (by decide) ?_; intro g4 cap4 w4 M; try dsimp only at M)
    go_ret
    rw [unhide HS, ← unhide HN] at M
    refine ⟨l ++ [z], some ⟨g4, 0, none⟩, cap4, _, by rw [unhide HN]; omega, fun x hx => ?_, by rw [unhide HN]; rfl, unhide HO3, Mem.fin⟩
    rcases List.mem_append.1 hx with hx | hx
    · exact unhide HLX x hx
    · cases List.mem_singleton.1 hx; omega
  · go_wp2_with fail
    refine (words_mem (unhide HO1)).mono ?_
    rintro e w2 ⟨l, g0, cap, cs2, l0, l20, hlx, rfl, ho, M⟩
    have HO2 := hide ho
    have HLX := hide (fun (x : List UInt8) (hx : x ∈ l) => Nat.le_trans (hlx x hx) (show (300 : Nat) ≤ 400 by decide))
    clear ho hlx
    have M := Mem.asRow (w := w) (W := w2) (b := w1.heap.size) (t := 9) 1
    try dsimp only at M
    go_wp2_with (refine mem_append_rw rfl (.tmp 7) (.tmp 9) 25 [] g0 l.length (strs l) rfl rfl rfl (by intro u hu; unfold strs at hu; obtain ⟨x, _, rfl⟩ := List.mem_map.1 hu; simp [Value.oneCell']) (by rw [strs_length, Nat.mul_one]) (by omega) l0 (by decide) ?_; intro g2 cap2 w3 M; try dsimp only at M)
    rw [List.nil_append, Nat.zero_add] at M
    refine (below_mem 2 (unhide HO2) (by decide) (by decide)).mono ?_
    rintro e w3 ⟨y, cs3, hy, rfl, ho, M⟩
    have HO3 := hide ho
    clear ho
    have wl : IntKind.i64.wrap (60 + (y : Int)) = ((60 + y : Nat) : Int) := by rw [IntKind.wrap_i64]; omega
    go_wp2_with fail
    try rw [show (60 : Int) + (y : Int) = ((60 + y : Nat) : Int) by omega]
    refine (long_any (60 + y) 97 _ (by omega)).mono ?_
    rintro e w8 ⟨rfl, hb⟩
    have M := Mem.go hb
    clear hb
    have HZ : (List.replicate (60 + y) (97 : UInt8)).length ≤ 400 := by rw [List.length_replicate]; omega
    generalize List.replicate (60 + y) (97 : UInt8) = z at *
    have HS : Hid (strs l ++ [.string ⟨z.toArray⟩] = strs (l ++ [z])) := (strs_append l [z]).symm
    have HN : Hid ((l ++ [z]).length = l.length + 1) := by show _ = _; simp
    go_wp2_with (refine mem_append_l rfl (.tmp 22) (.tmp 27) 25 (strs l) _ [.string ⟨z.toArray⟩] rfl rfl rfl (by simp [Value.oneCell']) (by rfl) (by omega) (by decide) ?_; intro g4 cap4 w4 M; try dsimp only at M)
    go_ret
    rw [unhide HS, ← unhide HN] at M
    refine ⟨l ++ [z], some ⟨g4, 0, none⟩, cap4, _, by rw [unhide HN]; omega, fun x hx => ?_, by rw [unhide HN]; rfl, unhide HO3, Mem.fin⟩
    rcases List.mem_append.1 hx with hx | hx
    · exact unhide HLX x hx
    · cases List.mem_singleton.1 hx; omega
  · go_wp2_with fail
    refine (words_mem (unhide HO1)).mono ?_
    rintro e w2 ⟨l, g0, cap, cs2, l0, l20, hlx, rfl, ho, M⟩
    have HO2 := hide ho
    have HLX := hide (fun (x : List UInt8) (hx : x ∈ l) => Nat.le_trans (hlx x hx) (show (300 : Nat) ≤ 400 by decide))
    clear ho hlx
    have M := Mem.asRow (w := w) (W := w2) (b := w1.heap.size) (t := 9) 1
    try dsimp only at M
    go_wp2_with (refine mem_append_rw rfl (.tmp 7) (.tmp 9) 25 [] g0 l.length (strs l) rfl rfl rfl (by intro u hu; unfold strs at hu; obtain ⟨x, _, rfl⟩ := List.mem_map.1 hu; simp [Value.oneCell']) (by rw [strs_length, Nat.mul_one]) (by omega) l0 (by decide) ?_; intro g2 cap2 w3 M; try dsimp only at M)
    rw [List.nil_append, Nat.zero_add] at M
    go_loopw [4] (fun o V => ∃ (l : List (List UInt8)) (b : Option Addr) (cap : Nat) (cs' : List Value), l.length ≤ 20 ∧ Hid (∀ x ∈ l, x.length ≤ 400) ∧ o = .slice b l.length cap ∧ Hid (CurOk w cs') ∧ Mem w V (.row b l.length cap 9 1 (strs l) :: .obj c 49 cs' :: R)) (fun o _ => 20 - sliceN o)
    case atStart => exact ⟨l, some ⟨g2, 0, none⟩, cap2, _, l20, unhide HLX, rfl, unhide HO2, Mem.fin⟩
    clear M HLX HO2
    case round =>
      obtain ⟨l, b, cap, cs5, l20, HLX, rfl, HO5, M⟩ := hrel
      go_wp2_with fail
      refine (below_mem 2 (unhide HO5) (by decide) (by decide)).mono ?_
      rintro e w6 ⟨y, cs6, hy, rfl, ho, M⟩
      have HO6 := hide ho
      clear ho HO5
      have wl : IntKind.i64.wrap (12 + (y : Int)) = 12 + (y : Int) := by rw [IntKind.wrap_i64]; omega
      by_cases hlt : l.length < 12 + y
      · have dl : decide ((l.length : Int) < 12 + (y : Int)) = true := decide_eq_true (by omega)
        have HS : Hid (strs l ++ [.string ⟨#[120]⟩] = strs (l ++ [[120]])) := (strs_append l [[120]]).symm
        have HN : Hid ((l ++ [[120]]).length = l.length + 1) := by show _ = _; simp
        have HX : Hid (∀ x ∈ l ++ [[120]], x.length ≤ 400) := fun x hx => by
          rcases List.mem_append.1 hx with hx | hx
          · exact HLX x hx
          · cases List.mem_singleton.1 hx; decide
        go_wp2_with (refine mem_append_l rfl (.tmp 37) (.tmp 38) 25 (strs l) _ [.string ⟨#[120]⟩] rfl rfl rfl (by simp [Value.oneCell']) (by rfl) (by omega) (by decide) ?_; intro g4 cap4 w4 M; try dsimp only at M)
        rw [unhide HS] at M
        go_roundw
        case rel => exact ⟨l ++ [[120]], some ⟨g4, 0, none⟩, cap4, cs6, by rw [unhide HN]; omega, unhide HX, by rw [unhide HN], unhide HO6, by rw [unhide HN]; exact Mem.fin⟩
        case measure => show 20 - (l.length + 1) < 20 - l.length; omega
      · have dl : decide ((l.length : Int) < 12 + (y : Int)) = false := decide_eq_false (by omega)
        go_wp2
        go_ret
        exact ⟨l, b, cap, cs6, by omega, HLX, rfl, unhide HO6, Mem.fin⟩
  · go_wp2_with fail
    refine (words_mem (unhide HO1)).mono ?_
    rintro e w2 ⟨l, g0, cap, cs2, l0, l20, hlx, rfl, ho, M⟩
    have HO2 := hide ho
    have HLX := hide (fun (x : List UInt8) (hx : x ∈ l) => Nat.le_trans (hlx x hx) (show (300 : Nat) ≤ 400 by decide))
    clear ho hlx
    have M := Mem.asRow (w := w) (W := w2) (b := w1.heap.size) (t := 9) 1
    try dsimp only at M
    go_wp2_with (refine mem_append_rw rfl (.tmp 7) (.tmp 9) 25 [] g0 l.length (strs l) rfl rfl rfl (by intro u hu; unfold strs at hu; obtain ⟨x, _, rfl⟩ := List.mem_map.1 hu; simp [Value.oneCell']) (by rw [strs_length, Nat.mul_one]) (by omega) l0 (by decide) ?_; intro g2 cap2 w3 M; try dsimp only at M)
    rw [List.nil_append, Nat.zero_add] at M
    refine (below_mem 30 (unhide HO2) (by decide) (by decide)).mono ?_
    rintro e w3 ⟨y, cs3, hy, rfl, ho, M⟩
    have HO3 := hide ho
    clear ho
    have wl : IntKind.i64.wrap (280 + (y : Int)) = ((280 + y : Nat) : Int) := by rw [IntKind.wrap_i64]; omega
    go_wp2_with fail
    try rw [show (280 : Int) + (y : Int) = ((280 + y : Nat) : Int) by omega]
    refine (long_any (280 + y) 97 _ (by omega)).mono ?_
    rintro e w8 ⟨rfl, hb⟩
    have M := Mem.go hb
    clear hb
    have HZ : (List.replicate (280 + y) (97 : UInt8)).length ≤ 400 := by rw [List.length_replicate]; omega
    generalize List.replicate (280 + y) (97 : UInt8) = z at *
    have HS : Hid (strs l ++ [.string ⟨z.toArray⟩] = strs (l ++ [z])) := (strs_append l [z]).symm
    have HN : Hid ((l ++ [z]).length = l.length + 1) := by show _ = _; simp
    go_wp2_with (refine mem_append_l rfl (.tmp 42) (.tmp 47) 25 (strs l) _ [.string ⟨z.toArray⟩] rfl rfl rfl (by simp [Value.oneCell']) (by rfl) (by omega) (by decide) ?_; intro g4 cap4 w4 M; try dsimp only at M)
    go_ret
    rw [unhide HS, ← unhide HN] at M
    refine ⟨l ++ [z], some ⟨g4, 0, none⟩, cap4, _, by rw [unhide HN]; omega, fun x hx => ?_, by rw [unhide HN]; rfl, unhide HO3, Mem.fin⟩
    rcases List.mem_append.1 hx with hx | hx
    · exact unhide HLX x hx
    · cases List.mem_singleton.1 hx; omega
  · have n0 : ((x1 : Int) == 0) = false := beq_eq_false_iff_ne.2 (by omega)
    have n1 : ((x1 : Int) == 1) = false := beq_eq_false_iff_ne.2 (by omega)
    have n2 : ((x1 : Int) == 2) = false := beq_eq_false_iff_ne.2 (by omega)
    have n3 : ((x1 : Int) == 3) = false := beq_eq_false_iff_ne.2 (by omega)
    go_wp2_with fail
    refine (words_mem (unhide HO1)).mono ?_
    rintro e w2 ⟨l, g0, cap, cs2, l0, l20, hlx, rfl, ho, M⟩
    have HO2 := hide ho
    have HLX := hide (fun (x : List UInt8) (hx : x ∈ l) => Nat.le_trans (hlx x hx) (show (300 : Nat) ≤ 400 by decide))
    clear ho hlx
    have M := Mem.asRow (w := w) (W := w2) (b := w1.heap.size) (t := 9) 1
    try dsimp only at M
    go_wp2_with (refine mem_append_rw rfl (.tmp 7) (.tmp 9) 25 [] g0 l.length (strs l) rfl rfl rfl (by intro u hu; unfold strs at hu; obtain ⟨x, _, rfl⟩ := List.mem_map.1 hu; simp [Value.oneCell']) (by rw [strs_length, Nat.mul_one]) (by omega) l0 (by decide) ?_; intro g2 cap2 w3 M; try dsimp only at M)
    rw [List.nil_append, Nat.zero_add] at M
    go_ret
    exact ⟨l, some ⟨g2, 0, none⟩, cap2, _, by omega, unhide HLX, rfl, unhide HO2, Mem.fin⟩
end Go.Proofs.YtjaohlnejkgkaaaGreatDoor
namespace Go.Proofs.YtjaohlnejkgkaaaGreatDoor.Plain
set_option linter.unusedVariables false

theorem same_no {t : List UInt8} (h : ¬ EndLit t) : spV t = rdV t := by
  rcases readers t with h1 | ⟨_, _, h1⟩
  · exact h1
  · exact absurd h1 h
theorem same_ok {t : List UInt8} (h : (rdV t).2.2 ≠ 2) : spV t = rdV t := by
  rcases readers t with h1 | ⟨h1, _, _⟩
  · exact h1
  · rw [h1] at h; exact absurd rfl h
theorem endLit_mem {t : List UInt8} (h : EndLit t) : (125 : UInt8) ∈ t ∧ 2 ≤ t.length := by
  obtain ⟨v, d, _, rfl | rfl⟩ := h <;> simp
theorem cmd_cases (l : List (List UInt8)) : ((cmdV l).2 = true) ∨ ((cmdV l).1 = [] ∧ (cmdV l).2 = false) := by
  cases h : (cmdV l).2 with
  | true => exact .inl rfl
  | false =>
    refine .inr ⟨?_, rfl⟩
    unfold cmdV at h ⊢
    split
    · rename_i h1
      rw [if_pos h1] at h
      split
      · rename_i h2; rw [if_pos h2] at h; cases h
      · rfl
    · rfl
theorem cut_same (l : List (List UInt8)) (j : Nat) : spV ((cmdV l).1.take j) = rdV ((cmdV l).1.take j) := by
  rcases cmd_cases l with h | ⟨h, _⟩
  · by_cases hj : j < (cmdV l).1.length
    · exact same_ok (by rw [rdV_cut h j hj]; decide)
    · rw [List.take_of_length_le (by omega)]
      exact same_ok (by rw [rdV_same h]; show (0 : Int) ≠ 2; decide)
  · rw [h, List.take_nil]; decide +kernel
theorem whole_same (l : List (List UInt8)) : spV (cmdV l).1 = rdV (cmdV l).1 := by
  have := cut_same l (cmdV l).1.length
  rwa [List.take_length] at this
theorem more_same (l : List (List UInt8)) (r : List UInt8) (hr : ¬ EndLit r) : spV ((cmdV l).1 ++ r) = rdV ((cmdV l).1 ++ r) := by
  rcases cmd_cases l with h | ⟨h, _⟩
  · exact same_ok (by rw [rdV_back h r]; show (0 : Int) ≠ 2; decide)
  · rw [h]; exact same_no hr
theorem spoilt_same (l : List (List UInt8)) {r : List UInt8} (h : Spoilt (cmdV l).1 r) : spV r = rdV r := by
  rcases h with rfl | ⟨b, rfl⟩ | ⟨k, _, rfl⟩ | ⟨k, b, hk, rfl⟩
  · exact whole_same l
  · exact more_same l [b] (fun h => by have := (endLit_mem h).2; simp at this)
  · exact cut_same l k
  · rcases cmd_cases l with h | ⟨h, _⟩
    · obtain ⟨_, _, _, h4⟩ := cmdV_yes h
      refine same_no ?_
      have hset : (cmdV l).1.take k ++ [b] ++ (cmdV l).1.drop (k + 1) = (cmdV l).1.set k b := by
        rw [List.set_eq_take_append_cons_drop, if_pos hk]; simp
      rw [hset]
      have hN : (cmdV l).1.length = (joinT l).length + 2 := by rw [h4]; simp
      have g1 : (cmdV l).1[(joinT l).length + 1]? = some 10 := by rw [h4, List.getElem?_append_right (by omega)]; simp
      have g2 : (cmdV l).1[(joinT l).length]? = some 13 := by rw [h4, List.getElem?_append_right (by omega)]; simp
      generalize joinT l = J at *
      generalize (cmdV l).1 = T at *
      rintro ⟨v, d, hd, e | e⟩
      · have hl := congrArg List.length e
        rw [List.length_set] at hl
        simp only [List.length_append, List.length_cons, List.length_nil] at hl
        have a1 : (T.set k b)[J.length + 1]? = some 125 := by rw [e, List.getElem?_append_right (by omega)]; simp [show J.length + 1 - v.length = 1 by omega]
        have a2 : (T.set k b)[J.length]? = some d := by rw [e, List.getElem?_append_right (by omega)]; simp [show J.length - v.length = 0 by omega]
        have hk1 : k = J.length + 1 := by
          by_cases hk1 : k = J.length + 1
          · exact hk1
          · rw [List.getElem?_set_ne hk1, g1] at a1; exact absurd (Option.some.inj a1) (by decide)
        rw [List.getElem?_set_ne (by omega), g2] at a2
        have := Option.some.inj a2
        subst this
        exact absurd hd (by decide)
      · have hl := congrArg List.length e
        rw [List.length_set] at hl
        simp only [List.length_append, List.length_cons, List.length_nil] at hl
        have a1 : (T.set k b)[J.length + 1]? = some 13 := by rw [e, List.getElem?_append_right (by omega)]; simp [show J.length + 1 - v.length = 2 by omega]
        have a2 : (T.set k b)[J.length]? = some 125 := by rw [e, List.getElem?_append_right (by omega)]; simp [show J.length - v.length = 1 by omega]
        have hk1 : k = J.length + 1 := by
          by_cases hk1 : k = J.length + 1
          · exact hk1
          · rw [List.getElem?_set_ne hk1, g1] at a1; exact absurd (Option.some.inj a1) (by decide)
        rw [List.getElem?_set_ne (by omega), g2] at a2
        exact absurd (Option.some.inj a2) (by decide)
    · rw [h] at hk; simp at hk
theorem quote_same (n : Nat) : spV (34 :: List.replicate n 97) = rdV (34 :: List.replicate n 97) :=
  same_no fun h => by
    have := (endLit_mem h).1
    rcases List.mem_cons.1 this with h | h
    · exact absurd h (by decide)
    · exact absurd (List.eq_of_mem_replicate h) (by decide)
def moreT : List (List UInt8) := [[34, 97, 34, 13, 10], [123, 50, 125, 13, 10, 97, 98, 13, 10], [123, 48, 50, 125, 13, 10, 97, 98, 13, 10], [97, 32, 32, 98, 13, 10], [40, 97, 32, 32, 98, 41, 13, 10], [34, 92, 97, 34], [123, 120], [123, 49, 50, 51, 52], [97, 10], [123, 51, 48, 48, 125, 13, 10], [123, 50, 57, 50, 125, 13, 10], [97, 32, 98, 40, 99, 41, 13, 10], [34, 97, 34, 98, 13, 10]]
theorem list_same : ∀ z ∈ moreT, spV z = rdV z ∧ z.length ≤ 20 := by decide +kernel
theorem cmd_len (l : List (List UInt8)) : (cmdV l).1.length ≤ 300 := by
  rcases cmd_cases l with h | ⟨h, _⟩
  · obtain ⟨_, _, h3, h4⟩ := cmdV_yes h
    rw [h4]; simp; omega
  · rw [h]; simp
end Go.Proofs.YtjaohlnejkgkaaaGreatDoor.Plain
namespace Go.Proofs.YtjaohlnejkgkaaaGreatDoor
open Go.RowKit
open Plain
set_option linter.unusedVariables false
set_option linter.unusedSimpArgs false
attribute [local go_sem] cell_of frozen_of

set_option maxHeartbeats 4000000 in
set_option maxRecDepth 100000 in
theorem DrawCommandText_mem {w W : World} {len cap : Nat} {a : Option Addr} {L : List Pc} (ha : Arg w.heap.size w a len) [M : Mem w W L] :
    Calls Tryz.prog 8 #[.slice a len cap] W fun e W' => ∃ (l : List (List UInt8)) (b : Option Addr) (cap : Nat) (c : Nat) (cs : List Value), l.length ≤ 30 ∧ (∀ x ∈ l, x.length ≤ 400) ∧ e = .returned (.slice b l.length cap) ∧ Mem w W' (.row b l.length cap 9 1 (strs l) :: .obj c 49 cs :: L) := by
  have HA := hide ha
  clear ha
  go_enter Tryz.func8, Tryz.ntmps8
  go_wp2_with fail
  refine (new_mem (unhide HA)).mono ?_
  rintro e w1 ⟨cs, c, rfl, ho, M⟩
  have HO := hide ho
  clear ho
  go_wp2_with fail
  refine (any_mem (unhide HO)).mono ?_
  rintro e w2 ⟨l, b, cap2, cs2, l30, hlx, rfl, ho, M⟩
  have HLX := hide hlx
  clear hlx ho
  go_wp2
  go_ret
  exact ⟨l, b, cap2, c, cs2, l30, unhide HLX, rfl, M⟩
set_option maxHeartbeats 4000000 in
set_option maxRecDepth 100000 in
theorem DrawReadCommand_mem {w W : World} {len cap : Nat} {a : Option Addr} {L : List Pc} (ha : Arg w.heap.size w a len) [M : Mem w W L] :
    Calls Tryz.prog 5 #[.slice a len cap] W fun e W' => ∃ (t : List UInt8), t.length ≤ 2000 ∧ spV t = rdV t ∧ e = .returned (.string ⟨t.toArray⟩) ∧ Mem w W' L := by
  have HA := hide ha
  clear ha
  go_enter Tryz.func5, Tryz.ntmps5
  go_wp2_with fail
  refine (new_mem (unhide HA)).mono ?_
  rintro e w1 ⟨cs, c, rfl, ho, M⟩
  have HO0 := hide ho
  clear ho
  go_wp2_with fail
  refine (below_mem 10 (unhide HO0) (by decide) (by decide)).mono ?_
  rintro e w2 ⟨x2, cs2, hx2, rfl, ho, M⟩
  have HO2 := hide ho
  clear ho
  go_wp2_with fail
  refine (below_mem 300 (unhide HO2) (by decide) (by decide)).mono ?_
  rintro e w3 ⟨x3, cs3, hx3, rfl, ho, M⟩
  have HO3 := hide ho
  clear ho
  go_wp2_with fail
  refine (pick_mem [[34, 97, 34, 13, 10], [123, 50, 125, 13, 10, 97, 98, 13, 10], [123, 48, 50, 125, 13, 10, 97, 98, 13, 10], [97, 32, 32, 98, 13, 10], [40, 97, 32, 32, 98, 41, 13, 10], [34, 92, 97, 34], [123, 120], [123, 49, 50, 51, 52], [97, 10], [123, 51, 48, 48, 125, 13, 10], [123, 50, 57, 50, 125, 13, 10], [97, 32, 98, 40, 99, 41, 13, 10], [34, 97, 34, 98, 13, 10]] (unhide HO3) rfl (by decide) (by decide) rfl).mono ?_
  rintro e w4 ⟨z, cs4, hz, rfl, ho, M⟩
  have HZ := hide (list_same z hz)
  have HO4 := hide ho
  clear ho hz
  go_wp2_with fail
  refine (any_mem (unhide HO4)).mono ?_
  rintro e w5 ⟨l, b, cap2, cs5, l30, hlx, rfl, ho, M⟩
  have HO5 := hide ho
  clear ho hlx
  go_wp2_with fail
  refine (spec_CommandText_any l b cap2 _ ?c1 ?c2).mono ?c3
  case c1 => omega
  case c2 => exact seeW_own (M.get (.row b l.length cap2 9 1 (strs l)))
  rintro e w7 ⟨rfl, hb⟩
  have M := Mem.go hb
  clear hb
  have VC := hide (fun j => cut_same l j)
  have VW := hide (whole_same l)
  have VM := hide (more_same l [109, 111, 114, 101] (fun h => by have := (endLit_mem h).1; revert this; decide))
  have VS := hide (fun r h => spoilt_same l (r := r) h)
  have TL := hide (cmd_len l)
  obtain ⟨⟨T, ok⟩, hV⟩ : ∃ V, cmdV l = V := ⟨_, rfl⟩
  rw [hV] at VC VW VM VS TL ⊢
  unfold cmdT
  dsimp only at VC VW VM VS TL ⊢
  clear hV
  rcases (show x2 = 0 ∨ x2 = 1 ∨ x2 = 2 ∨ x2 = 3 ∨ x2 = 4 ∨ x2 = 5 ∨ 6 ≤ x2 by omega) with rfl | rfl | rfl | rfl | rfl | rfl | h6
  · have t3 : T.length ≤ 300 := unhide TL
    obtain ⟨j, hj⟩ : ∃ j, j = x3 % (T.length + 1) := ⟨_, rfl⟩
    have em : (x3 : Int) % ((T.length : Int) + 1) = (j : Int) := by rw [hj]; norm_cast
    have jT : j < T.length + 1 := by rw [hj]; exact Nat.mod_lt _ (Nat.succ_pos _)
    have wl : IntKind.i64.wrap ((T.length : Int) + 1) = (T.length : Int) + 1 := by rw [IntKind.wrap_i64]; omega
    have n0 : ((T.length : Int) + 1 == 0) = false := beq_eq_false_iff_ne.2 (by omega)
    have i1 : (0 : Int) ≤ (j : Int) := by omega
    have i2 : (j : Int) ≤ (T.length : Int) := by omega
    have i3 : j ≤ T.length := by omega
    have eX := hide (ext_text2 T 0 j)
    clear hj
    go_wp2
    go_ret
    exact ⟨T.take j, by rw [List.length_take]; omega, unhide VC j, by rw [unhide eX]; rfl, Mem.fin⟩
  · have t3 : T.length ≤ 300 := unhide TL
    obtain ⟨j, hj⟩ : ∃ j, j = x3 % (T.length + 1) := ⟨_, rfl⟩
    have em : (x3 : Int) % ((T.length : Int) + 1) = (j : Int) := by rw [hj]; norm_cast
    have jT : j < T.length + 1 := by rw [hj]; exact Nat.mod_lt _ (Nat.succ_pos _)
    have wl : IntKind.i64.wrap ((T.length : Int) + 1) = (T.length : Int) + 1 := by rw [IntKind.wrap_i64]; omega
    have n0 : ((T.length : Int) + 1 == 0) = false := beq_eq_false_iff_ne.2 (by omega)
    have i1 : (0 : Int) ≤ (j : Int) := by omega
    have i2 : (j : Int) ≤ (T.length : Int) := by omega
    have i3 : j ≤ T.length := by omega
    have eX := hide (ext_text2 T 0 j)
    clear hj
    go_wp2
    go_ret
    exact ⟨T.take j, by rw [List.length_take]; omega, unhide VC j, by rw [unhide eX]; rfl, Mem.fin⟩
  · have t3 : T.length ≤ 300 := unhide TL
    go_wp2_with fail
    refine (spoilt_mem T (by omega) (unhide HO5)).mono ?_
    rintro e w9 ⟨r, cs9, hr, rfl, ho, M⟩
    have HR := hide (unhide VS r hr)
    have rl : r.length ≤ 1000 := by
      rcases hr with rfl | ⟨b, rfl⟩ | ⟨k, _, rfl⟩ | ⟨k, b, hk, rfl⟩
      · omega
      · simp; omega
      · rw [List.length_take]; omega
      · simp only [List.length_append, List.length_take, List.length_drop, List.length_cons, List.length_nil]; omega
    clear hr ho
    go_wp2
    go_ret
    exact ⟨r, by omega, unhide HR, rfl, Mem.fin⟩
  · go_wp2
    go_ret
    exact ⟨z, by have := (unhide HZ).2; omega, (unhide HZ).1, rfl, Mem.fin⟩
  · have t3 : T.length ≤ 300 := unhide TL
    have s1 : ¬ 9223372036854775807 < T.length + 4 := by omega
    go_wp2
    go_ret
    exact ⟨T ++ [109, 111, 114, 101], by simp; omega, unhide VM, rfl, Mem.fin⟩
  · have hq := hide (quote_same x3)
    go_wp2_with fail
    refine (long_any x3 97 _ (by omega)).mono ?_
    rintro e w9 ⟨rfl, hb⟩
    have M := Mem.go hb
    clear hb
    have hl : (List.replicate x3 (97 : UInt8)).length ≤ 300 := by rw [List.length_replicate]; omega
    generalize List.replicate x3 (97 : UInt8) = y at *
    have s1 : ¬ 9223372036854775807 < 1 + y.length := by omega
    go_wp2
    go_ret
    exact ⟨34 :: y, by simp; omega, unhide hq, by rfl, Mem.fin⟩
  · have n0 : ((x2 : Int) == 0) = false := beq_eq_false_iff_ne.2 (by omega)
    have n1 : ((x2 : Int) == 1) = false := beq_eq_false_iff_ne.2 (by omega)
    have n2 : ((x2 : Int) == 2) = false := beq_eq_false_iff_ne.2 (by omega)
    have n3 : ((x2 : Int) == 3) = false := beq_eq_false_iff_ne.2 (by omega)
    have n4 : ((x2 : Int) == 4) = false := beq_eq_false_iff_ne.2 (by omega)
    have n5 : ((x2 : Int) == 5) = false := beq_eq_false_iff_ne.2 (by omega)
    go_wp2
    go_ret
    exact ⟨T, by have := unhide TL; omega, unhide VW, rfl, Mem.fin⟩
end Go.Proofs.YtjaohlnejkgkaaaGreatDoor
