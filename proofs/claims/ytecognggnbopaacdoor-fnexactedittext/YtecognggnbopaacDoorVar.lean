/- The bytes of a number: what spec.l01Var and both VarText answer. -/
import Derived.Test.YtecognggnbopaacDoorRows
import Derived.Test.YtecognggnbopaacDoorPlainA
import Derived.Test.YtecognggnbopaacDoorBase
import Derived.WalkKit
import Derived.WalkSpells
import Derived.ProofKit
import Derived.Handy
import Derived.Laws.IdiomStrings
namespace Go.Proofs.YtecognggnbopaacDoor
open Go.RowKit
open Plain
set_option linter.unusedVariables false

set_option maxHeartbeats 400000 in
set_option maxRecDepth 100000 in
theorem l01Var_any (N : Nat) (w : World) (h1 : N ≤ 34359738368) :
    Calls Tryd.prog 13 #[.int .i64 N] w fun e w' => e = .returned (.string ⟨(varL N).toArray⟩) ∧ Below w.heap.size w w' := by
  obtain ⟨i0, hi, hz0, hz1, hz2⟩ := info_parts Tryd.infoU8
  go_enter Tryd.func13, Tryd.ntmps13
  go_wp2
  go_loopw [0, 3] (fun n v wr => ∃ (m : Nat) (pre : List UInt8), n = .int .i64 m ∧ m ≤ 34359738368 ∧ VarInv N m pre ∧ wr.ownsRow w.heap.size 5 1 v pre.length (bv pre) ∧ w.heap.size ≤ wr.heap.size ∧ Below w.heap.size w wr)
    (fun n _ _ => (intOf n).toNat)
  case atStart => exact ⟨N, [], rfl, h1, VarInv.start N h1, World.ownsRow_lit w #[] 0 (Nat.le_refl _) (Nat.zero_le _) rfl, by simp, (Below.refl _ _).alloc (Nat.le_refl _) _⟩
  case round =>
    obtain ⟨m, pre, rfl, hm, hinv, hown, hsz, hbel⟩ := hrel
    have hlen := hinv.len
    by_cases hlt : 127 < m
    · go_wp2_with (at_builtin; refine wpList_append_own _ rfl _ _ 36 rfl w.heap.size 5 i0 (.int .u8 0) 1 1 Tryd.underlying36 hi hz0 hz1 hz2 rfl (by decide) _ _ _ rfl (hown.alloc _) ⟨wr.heap.size, 0, none⟩ 1 1 [.int .u8 (m % 128 + 128)] rfl rfl (news_one _) ?c2 ?c3 ?c4 ?c5 ?_)
      case c2 => intro u hu; simp at hu; subst hu; rfl
      case c3 => unfold maxLen; omega
      case c4 => omega
      case c5 => simp; omega
      intro v' w1 hown' hgrow _
      have hst := hinv.step hlt
      have hb1 : Below w.heap.size w w1 := (hbel.alloc hsz _).grown hgrow (by simp; omega) (fun k hk => (hown.lt k hk).1)
      have hs1 : w.heap.size ≤ w1.heap.size := by have := hb1.size; omega
      have ho1 : w1.ownsRow w.heap.size 5 1 v' (pre ++ [UInt8.ofNat (m % 128 + 128)]).length (bv (pre ++ [UInt8.ofNat (m % 128 + 128)])) := by
        rw [bv_append, List.length_append]
        have e : bv [UInt8.ofNat (m % 128 + 128)] = [Value.int .u8 ((m : Int) % 128 + 128)] := by
          simp only [bv, List.map_cons, List.map_nil, u8_more]; simp
        rw [e]; exact hown'
      clear hown hown' hgrow hbel hinv
      go_wp2
      go_roundw
      case rel => exact ⟨m / 128, _, by go_num, by omega, hst, ho1, hs1, hb1⟩
      case measure => simp [intOf]; omega
    · go_wp2_with (at_builtin; refine wpList_append_own _ rfl _ _ 36 rfl w.heap.size 5 i0 (.int .u8 0) 1 1 Tryd.underlying36 hi hz0 hz1 hz2 rfl (by decide) _ _ _ rfl (hown.alloc _) ⟨wr.heap.size, 0, none⟩ 1 1 [.int .u8 m] rfl rfl (news_one _) ?d2 ?d3 ?d4 ?d5 ?_)
      case d2 => intro u hu; simp at hu; subst hu; rfl
      case d3 => unfold maxLen; omega
      case d4 => omega
      case d5 => simp; omega
      intro v' w1 hown' hgrow _
      have hst := hinv.done (by omega)
      have hb1 : Below w.heap.size w w1 := (hbel.alloc hsz _).grown hgrow (by simp; omega) (fun k hk => (hown.lt k hk).1)
      have ho1 : w1.ownsRow w.heap.size 5 1 v' (pre ++ [UInt8.ofNat m]).length (bv (pre ++ [UInt8.ofNat m])) := by
        rw [bv_append, List.length_append]
        have e : bv [UInt8.ofNat m] = [Value.int .u8 (m : Int)] := by
          simp only [bv, List.map_cons, List.map_nil, u8_small m (by omega)]
        rw [e]; exact hown'
      have hcv := own_str rfl ho1
      have hst' : Hid (varL N = pre ++ [UInt8.ofNat m]) := hst
      clear hown hown' hgrow hbel hinv ho1 hst
      go_wp2
      go_ret
      exact ⟨by rw [hst'.out]; rfl, hb1⟩

theorem l01In_yes (x l m : Int) (w : World) (h1 : l ≤ x) (h2 : x ≤ m) : Calls Tryd.prog 21 #[.int .i64 x, .int .i64 l, .int .i64 m] w fun e w' => e = .returned (.bool true) ∧ w = w' := by
  have hd : decide (l ≤ x) = true := by simpa using h1
  have hd2 : decide (x ≤ m) = true := by simpa using h2
  go_enter Tryd.func21, Tryd.ntmps21
  go_wp2
  go_ret
  exact ⟨rfl, rfl⟩

theorem l01In_no (x l m : Int) (w : World) (h1 : x < l ∨ m < x) : Calls Tryd.prog 21 #[.int .i64 x, .int .i64 l, .int .i64 m] w fun e w' => e = .returned (.bool false) ∧ w = w' := by
  by_cases h : l ≤ x
  · have hd : decide (l ≤ x) = true := by simpa using h
    have hd2 : decide (x ≤ m) = false := by simp; omega
    go_enter Tryd.func21, Tryd.ntmps21
    go_wp2
    go_ret
    exact ⟨rfl, rfl⟩
  · have hd : decide (l ≤ x) = false := by simpa using h
    go_enter Tryd.func21, Tryd.ntmps21
    go_wp2
    go_ret
    exact ⟨rfl, rfl⟩

set_option maxHeartbeats 400000 in
set_option maxRecDepth 100000 in
theorem impl_VarText_yes (N : Nat) (w : World) (h1 : N ≤ 1000000000) :
    Calls Tryd.prog 18 #[.int .i64 N] w fun e w' => e = .returned (.tuple #[.string ⟨(varL N).toArray⟩, .bool true]) ∧ Below w.heap.size w w' := by
  obtain ⟨i0, hi, hz0, hz1, hz2⟩ := info_parts Tryd.infoU8
  have hd : decide ((N : Int) < 0) = false := by simp
  have hd2 : decide ((1000000000 : Int) < N) = false := by simp; omega
  go_enter Tryd.func18, Tryd.ntmps18
  go_wp2
  go_loopw [0, 4] (fun n v wr => ∃ (m : Nat) (pre : List UInt8), n = .int .i64 m ∧ m ≤ 34359738368 ∧ VarInv N m pre ∧ wr.ownsRow w.heap.size 5 1 v pre.length (bv pre) ∧ w.heap.size ≤ wr.heap.size ∧ Below w.heap.size w wr)
    (fun n _ _ => (intOf n).toNat)
  case atStart => exact ⟨N, [], rfl, by omega, VarInv.start N (by omega), World.ownsRow_nil _ _ _ _, Nat.le_refl _, Below.refl _ _⟩
  case round =>
    obtain ⟨m, pre, rfl, hm, hinv, hown, hsz, hbel⟩ := hrel
    have hlen := hinv.len
    by_cases hlt : 127 < m
    · go_wp2_with (at_builtin; refine wpList_append_own _ rfl _ _ 36 rfl w.heap.size 5 i0 (.int .u8 0) 1 1 Tryd.underlying36 hi hz0 hz1 hz2 rfl (by decide) _ _ _ rfl (hown.alloc _) ⟨wr.heap.size, 0, none⟩ 1 1 [.int .u8 (m % 128 + 128)] rfl rfl (news_one _) ?c2 ?c3 ?c4 ?c5 ?_)
      case c2 => intro u hu; simp at hu; subst hu; rfl
      case c3 => unfold maxLen; omega
      case c4 => omega
      case c5 => simp; omega
      intro v' w1 hown' hgrow _
      have hst := hinv.step hlt
      have hb1 : Below w.heap.size w w1 := (hbel.alloc hsz _).grown hgrow (by simp; omega) (fun k hk => (hown.lt k hk).1)
      have hs1 : w.heap.size ≤ w1.heap.size := by have := hb1.size; omega
      have ho1 : w1.ownsRow w.heap.size 5 1 v' (pre ++ [UInt8.ofNat (m % 128 + 128)]).length (bv (pre ++ [UInt8.ofNat (m % 128 + 128)])) := by
        rw [bv_append, List.length_append]
        have e : bv [UInt8.ofNat (m % 128 + 128)] = [Value.int .u8 ((m : Int) % 128 + 128)] := by
          simp only [bv, List.map_cons, List.map_nil, u8_more]; simp
        rw [e]; exact hown'
      clear hown hown' hgrow hbel hinv
      go_wp2
      go_roundw
      case rel => exact ⟨m / 128, _, by go_num, by omega, hst, ho1, hs1, hb1⟩
      case measure => simp [intOf]; omega
    · go_wp2_with (at_builtin; refine wpList_append_own _ rfl _ _ 36 rfl w.heap.size 5 i0 (.int .u8 0) 1 1 Tryd.underlying36 hi hz0 hz1 hz2 rfl (by decide) _ _ _ rfl (hown.alloc _) ⟨wr.heap.size, 0, none⟩ 1 1 [.int .u8 m] rfl rfl (news_one _) ?d2 ?d3 ?d4 ?d5 ?_)
      case d2 => intro u hu; simp at hu; subst hu; rfl
      case d3 => unfold maxLen; omega
      case d4 => omega
      case d5 => simp; omega
      intro v' w1 hown' hgrow _
      have hst := hinv.done (by omega)
      have hb1 : Below w.heap.size w w1 := (hbel.alloc hsz _).grown hgrow (by simp; omega) (fun k hk => (hown.lt k hk).1)
      have ho1 : w1.ownsRow w.heap.size 5 1 v' (pre ++ [UInt8.ofNat m]).length (bv (pre ++ [UInt8.ofNat m])) := by
        rw [bv_append, List.length_append]
        have e : bv [UInt8.ofNat m] = [Value.int .u8 (m : Int)] := by
          simp only [bv, List.map_cons, List.map_nil, u8_small m (by omega)]
        rw [e]; exact hown'
      have hcv := own_str rfl ho1
      have hst' : Hid (varL N = pre ++ [UInt8.ofNat m]) := hst
      clear hown hown' hgrow hbel hinv ho1 hst
      go_wp2
      go_ret2
      exact ⟨by rw [hst'.out]; rfl, hb1⟩

theorem impl_VarText_no (n : Int) (w : World) (h : n < 0 ∨ 1000000000 < n) :
    Calls Tryd.prog 18 #[.int .i64 n] w fun e w' => e = .returned (.tuple #[.string ⟨#[]⟩, .bool false]) ∧ Below w.heap.size w w' := by
  by_cases h0 : n < 0
  · have hd : decide (n < 0) = true := by simpa using h0
    go_enter Tryd.func18, Tryd.ntmps18
    go_wp2
    go_ret2
    exact ⟨rfl, Below.refl _ _⟩
  · have hd : decide (n < 0) = false := by simpa using h0
    have hd2 : decide ((1000000000 : Int) < n) = true := by simp; omega
    go_enter Tryd.func18, Tryd.ntmps18
    go_wp2
    go_ret2
    exact ⟨rfl, Below.refl _ _⟩
end Go.Proofs.YtecognggnbopaacDoor
