/- FnSetsTold's walk, over whatever contracts of the program's own functions. -/
import Derived.Test.YtkmphclmealkeaaGreatDoorDrawTold2
import Derived.Test.YtkmphclmealkeaaGreatDoorSameSet
import Derived.Test.YtkmphclmealkeaaGreatDoorSetTwo
import Derived.Test.YtkmphclmealkeaaGreatDoorReadSetW
namespace Go.Proofs.YtkmphclmealkeaaGreatDoor
open Go.RowKit
open Plain
set_option linter.unusedVariables false

namespace Plain
theorem putV_small {s : List Rg} {lo hi : Int} {c : Bool} (h : s.length ≤ 1048576) : (putV s lo hi c).1.length ≤ 1048576 := by
  unfold putV
  split
  · split
    · simp only; omega
    · exact h
  · exact h
theorem setV_small {b : Nat → Bool} : (setV b).1.length ≤ 1048576 := by
  unfold setV
  split
  · simp only; omega
  · exact Nat.zero_le _
theorem twoV_small {s t : List Rg} {c : Bool} : (twoV s t c).1.length ≤ 1048576 := by
  unfold twoV
  split
  · exact setV_small
  · exact Nat.zero_le _
theorem readV_small {l : List UInt8} {last : Int} : (readV l last).1.length ≤ 1048576 := by
  unfold readV
  split
  · exact setV_small
  · exact Nat.zero_le _
end Plain

/-- What is asked of the program's functions. -/
structure ToldOk (w : World) : Prop where
  add : ∀ (s : List Rg) (lo hi : Int) (v : Value) (B : Nat) (W : World), s.length ≤ 1048576 → (-9223372036854775808 ≤ lo ∧ lo ≤ 9223372036854775807) → (-9223372036854775808 ≤ hi ∧ hi ≤ 9223372036854775807) → OwnR B W v s → Below w.heap.size w W → Calls Tryz.prog 12 #[v, .int .i64 lo, .int .i64 hi] W fun e w' => ∃ v', e = .returned (.tuple #[v', .bool (putV s lo hi true).2]) ∧ OwnR W.heap.size w' v' (putV s lo hi true).1 ∧ Below W.heap.size W w'
  drop : ∀ (s : List Rg) (lo hi : Int) (v : Value) (B : Nat) (W : World), s.length ≤ 1048576 → (-9223372036854775808 ≤ lo ∧ lo ≤ 9223372036854775807) → (-9223372036854775808 ≤ hi ∧ hi ≤ 9223372036854775807) → OwnR B W v s → Below w.heap.size w W → Calls Tryz.prog 14 #[v, .int .i64 lo, .int .i64 hi] W fun e w' => ∃ v', e = .returned (.tuple #[v', .bool (putV s lo hi false).2]) ∧ OwnR W.heap.size w' v' (putV s lo hi false).1 ∧ Below W.heap.size W w'
  join : ∀ (s t : List Rg) (v u : Value) (B C : Nat) (W : World), s.length ≤ 1048576 → t.length ≤ 1048576 → OwnR B W v s → OwnR C W u t → Below w.heap.size w W → Calls Tryz.prog 17 #[v, u] W fun e w' => ∃ v', e = .returned (.tuple #[v', .bool (twoV s t false).2]) ∧ OwnR W.heap.size w' v' (twoV s t false).1 ∧ Below W.heap.size W w'
  read : ∀ (b : ByteArray) (last : Int) (W : World), b.size ≤ 1048576 → (0 ≤ last ∧ last ≤ 10000) → Below w.heap.size w W → Calls Tryz.prog 8 #[.string b, .int .i64 last] W fun e w' => ∃ v', e = .returned (.tuple #[v', .bool (readV b.data.toList last).2]) ∧ OwnR W.heap.size w' v' (readV b.data.toList last).1 ∧ Below W.heap.size W w'
  ok : ∀ (s : List Rg) (v : Value) (B : Nat) (W : World), s.length ≤ 1048576 → OwnR B W v s → Below w.heap.size w W → Calls Tryz.prog 21 #[v] W fun e w' => e = .returned (.bool (okS s)) ∧ Below W.heap.size W w'
  size : ∀ (s : List Rg) (v : Value) (B : Nat) (W : World), s.length ≤ 1048576 → OwnR B W v s → Below w.heap.size w W → Calls Tryz.prog 23 #[v] W fun e w' => e = .returned (.int .i64 (sizeL s)) ∧ Below W.heap.size W w'

set_option maxHeartbeats 8000000 in
set_option maxRecDepth 100000 in
theorem FnSetsTold_walk (len cap : Nat) (a : Option Addr) (w : World) (ha : Arg w.heap.size w a len) (CI : ToldOk w) :
    Calls Tryz.prog 4 #[.slice a len cap] w fun e w' => e = .returned (.bool true) ∧ Below w.heap.size w w' := by
  have hl := ha.1
  have q0 := bigS_any len cap a w (by omega)
  rw [decide_eq_false (show ¬ (1048576 : Int) < (len : Int) by omega)] at q0
  have Q0 := hide q0
  have D1 := hide (fun W (hb : Below w.heap.size w W) => DrawSetAdd_any w.heap.size len cap a W (ha.below hb) hb.size)
  have D2 := hide (fun W (hb : Below w.heap.size w W) => DrawSetJoin_any w.heap.size len cap a W (ha.below hb) hb.size)
  have D3 := hide (fun W (hb : Below w.heap.size w W) => DrawReadSet_any w.heap.size len cap a W (ha.below hb) hb.size)
  have L0 : Hid (RowsR w w []) := ⟨fun p hp => (by cases hp), Below.refl _ _⟩
  have CC := hide CI
  clear q0 ha CI
  go_enter Tryz.func4, Tryz.ntmps4
  go_wp2_with fail
  refine (unhide Q0).mono ?_
  rintro e w0 ⟨rfl, hw⟩
  subst w0
  clear Q0
  go_wp2_with fail
  refine (unhide D1 w (unhide L0).2).mono ?_
  rintro e w1 ⟨v, s, lo, hi, rfl, hs, hlo, hhi, o1, hb1⟩
  have L1 := hide ((unhide L0).more hb1 o1)
  clear o1 hb1 L0 D1
  go_wp2_with fail
  refine ((unhide CC).add s lo hi v w.heap.size w1 (by omega) hlo hhi ((unhide L1).get v s (by simp)) (unhide L1).2).mono ?_
  rintro e w2 ⟨va, rfl, o2, hb2⟩
  have L2 := hide ((unhide L1).more hb2 o2)
  clear o2 hb2 L1
  go_wp2_with fail
  refine (spec_SetAdd_any s lo hi v w.heap.size w2 (by omega) ((unhide L2).get v s (by simp))).mono ?_
  rintro e w3 ⟨vb, rfl, o3, hb3⟩
  have L3 := hide ((unhide L2).more hb3 o3)
  clear o3 hb3 L2
  go_wp2_with fail
  refine ((unhide CC).drop s lo hi v w.heap.size w3 (by omega) hlo hhi ((unhide L3).get v s (by simp)) (unhide L3).2).mono ?_
  rintro e w4 ⟨vc, rfl, o4, hb4⟩
  have L4 := hide ((unhide L3).more hb4 o4)
  clear o4 hb4 L3
  go_wp2_with fail
  refine (spec_SetDrop_any s lo hi v w.heap.size w4 (by omega) ((unhide L4).get v s (by simp))).mono ?_
  rintro e w5 ⟨vd, rfl, o5, hb5⟩
  have L5 := hide ((unhide L4).more hb5 o5)
  clear o5 hb5 L4
  have hA : (putV s lo hi true).1.length ≤ 1048576 := putV_small (by omega)
  have hD : (putV s lo hi false).1.length ≤ 1048576 := putV_small (by omega)
  generalize putV s lo hi true = PA at *
  generalize putV s lo hi false = PD at *
  obtain ⟨PA, bA⟩ := PA
  obtain ⟨PD, bD⟩ := PD
  simp only at hA hD L5 ⊢
  go_wp2_with fail
  refine (unhide D2 w5 (unhide L5).2).mono ?_
  rintro e w6 ⟨x, y, sx, sy, rfl, hsx, hsy, ox, oy, hb6⟩
  have L6a := hide ((unhide L5).more hb6 ox)
  have L6 : Hid (RowsR w w6 ((y, sy) :: (x, sx) :: _)) := ⟨fun p hp => by
    rcases List.mem_cons.1 hp with e | hp
    · subst e; exact g_based oy (unhide L5).2.size
    · exact (unhide L6a).1 p hp, (unhide L6a).2⟩
  clear ox oy hb6 L5 L6a D2
  go_wp2_with fail
  refine ((unhide CC).join sx sy x y w.heap.size w.heap.size w6 (by omega) (by omega) ((unhide L6).get x sx (by simp)) ((unhide L6).get y sy (by simp)) (unhide L6).2).mono ?_
  rintro e w7 ⟨vg, rfl, o7, hb7⟩
  have L7 := hide ((unhide L6).more hb7 o7)
  clear o7 hb7 L6
  go_wp2_with fail
  refine (spec_SetJoin_any sx sy x y w7 (by omega) (by omega) ((unhide L7).get x sx (by simp)).read ((unhide L7).get y sy (by simp)).read).mono ?_
  rintro e w8 ⟨vi, rfl, o8, hb8⟩
  have L8 := hide ((unhide L7).more hb8 o8)
  clear o8 hb8 L7
  have hJ : (twoV sx sy false).1.length ≤ 1048576 := twoV_small
  generalize twoV sx sy false = PJ at *
  obtain ⟨PJ, bJ⟩ := PJ
  simp only at hJ L8 ⊢
  go_wp2_with fail
  refine (unhide D3 w8 (unhide L8).2).mono ?_
  rintro e w9 ⟨t, last, rfl, htz, hla, hb9⟩
  have L9 := hide ((unhide L8).up hb9)
  clear hb9 L8 D3
  go_wp2_with fail
  refine ((unhide CC).read t last w9 htz hla (unhide L9).2).mono ?_
  rintro e w10 ⟨vk, rfl, o10, hb10⟩
  have L10 := hide ((unhide L9).more hb10 o10)
  clear o10 hb10 L9
  go_wp2_with fail
  refine (spec_ReadSet_any t last w10 htz).mono ?_
  rintro e w11 ⟨vm, rfl, o11, hb11⟩
  have L11 := hide ((unhide L10).more hb11 o11)
  clear o11 hb11 L10
  have hR : (readV t.data.toList last).1.length ≤ 1048576 := readV_small
  generalize readV t.data.toList last = PR at *
  obtain ⟨PR, bR⟩ := PR
  simp only at hR L11 ⊢
  go_wp2_with fail
  refine (sameSet_same PA va vb w11 hA ((unhide L11).get va PA (by simp)).read ((unhide L11).get vb PA (by simp)).read).mono ?_
  rintro e w12 ⟨rfl, q12, h12⟩
  have L12 := hide ((unhide L11).up (show Below _ w11 w12 by rw [h12]; exact below_drewN (Below.refl _ _) q12))
  clear L11 h12
  go_wp2_with fail
  refine (sameSet_same PD vc vd w12 hD ((unhide L12).get vc PD (by simp)).read ((unhide L12).get vd PD (by simp)).read).mono ?_
  rintro e w13 ⟨rfl, q13, h13⟩
  have L13 := hide ((unhide L12).up (show Below _ w12 w13 by rw [h13]; exact below_drewN (Below.refl _ _) q13))
  clear L12 h13
  go_wp2_with fail
  refine (sameSet_same PJ vg vi w13 hJ ((unhide L13).get vg PJ (by simp)).read ((unhide L13).get vi PJ (by simp)).read).mono ?_
  rintro e w14 ⟨rfl, q14, h14⟩
  have L14 := hide ((unhide L13).up (show Below _ w13 w14 by rw [h14]; exact below_drewN (Below.refl _ _) q14))
  clear L13 h14
  go_wp2_with fail
  refine (sameSet_same PR vk vm w14 hR ((unhide L14).get vk PR (by simp)).read ((unhide L14).get vm PR (by simp)).read).mono ?_
  rintro e w15 ⟨rfl, q15, h15⟩
  have L15 := hide ((unhide L14).up (show Below _ w14 w15 by rw [h15]; exact below_drewN (Below.refl _ _) q15))
  clear L14 h15
  go_wp2_with fail
  refine ((unhide CC).ok s v w.heap.size w15 (by omega) ((unhide L15).get v s (by simp)) (unhide L15).2).mono ?_
  rintro e w16 ⟨rfl, hb16⟩
  have L16 := hide ((unhide L15).up hb16)
  clear hb16 L15
  go_wp2_with fail
  refine (spec_SetOk_any s v w16 (by omega) ((unhide L16).get v s (by simp)).read).mono ?_
  rintro e w17 ⟨rfl, q17, h17⟩
  have L17 := hide ((unhide L16).up (show Below _ w16 w17 by rw [h17]; exact below_drewN (Below.refl _ _) q17))
  clear L16 h17
  go_wp2_with fail
  refine ((unhide CC).size s v w.heap.size w17 (by omega) ((unhide L17).get v s (by simp)) (unhide L17).2).mono ?_
  rintro e w18 ⟨rfl, hb18⟩
  have L18 := hide ((unhide L17).up hb18)
  clear hb18 L17
  go_wp2_with fail
  refine (spec_SetSize_any s v w18 (by omega) ((unhide L18).get v s (by simp)).read).mono ?_
  rintro e w19 ⟨rfl, q19, h19⟩
  have L19 := hide ((unhide L18).up (show Below _ w18 w19 by rw [h19]; exact below_drewN (Below.refl _ _) q19))
  clear L18 h19
  go_wp2
  go_ret
  exact ⟨rfl, (unhide L19).2⟩
end Go.Proofs.YtkmphclmealkeaaGreatDoor
