/- The program's LineOk. Made by gen_line.py. -/
import Derived.Test.YtgdihceikhkddaaDoorTv
import Derived.Test.YtgdihceikhkddaaDoorLnPlain
import Derived.Test.YtgdihceikhkddaaDoorLnSame
import Derived.Test.YtgdihceikhkddaaDoorBoxNameI
import Derived.Test.YtgdihceikhkddaaDoorImplFlag
import Derived.Test.YtgdihceikhkddaaDoorImplOk
namespace Go.Proofs.YtgdihceikhkddaaDoor
open Go.RowKit Go.ChangeShapes Go.WideShapes Go.ChangeAt Go.Deep
open Plain
set_option linter.unusedVariables false
set_option linter.unusedSimpArgs false

set_option maxHeartbeats 4000000 in
set_option maxRecDepth 100000 in
theorem sameLine_any (k1 n1 u1 f1 m1 k2 n2 u2 f2 m2 : Int) (b1 b2 : Bool) (a1 a2 : Option Addr) (l1 l2 c1 c2 : Nat) (E : Bool) (w : World)
  (HE : ∀ W, Below w.heap.size w W → Calls Tryd.prog 36 #[.slice a1 l1 c1, .slice a2 l2 c2] W fun e w' => e = .returned (.bool E) ∧ Below W.heap.size W w') :
  Calls Tryd.prog 25 #[.agg #[.int .i64 k1, .int .i64 n1, .int .i64 u1, .int .i64 f1, .int .i64 m1, .slice a1 l1 c1, .bool b1], .agg #[.int .i64 k2, .int .i64 n2, .int .i64 u2, .int .i64 f2, .int .i64 m2, .slice a2 l2 c2, .bool b2]] w
   fun e w' => e = .returned (.bool (decide (k1 = k2) && decide (n1 = n2) && decide (u1 = u2) && decide (f1 = f2) && decide (m1 = m2) && E && (b1 == b2))) ∧ Below w.heap.size w w' := by
 have HQ := hide HE; clear HE
 obtain ⟨Z, hZ⟩ : ∃ Z, Z = (decide (k1 = k2) && decide (n1 = n2) && decide (u1 = u2) && decide (f1 = f2) && decide (m1 = m2) && E && (b1 == b2)) := ⟨_, rfl⟩
 rw [← hZ]
 have HZ := hide hZ; clear hZ; have BB := hide (Below.refl w.heap.size w)
 obtain ⟨ws1, hA⟩ : ∃ X, X = w.alloc (.cells ([.int .i64 k1, .int .i64 n1, .int .i64 u1, .int .i64 f1, .int .i64 m1, .slice a1 l1 c1, .bool b1] : List Value).toArray 30) := ⟨_, rfl⟩
 have Ax : HasObj ws1 w.heap.size 30 [.int .i64 k1, .int .i64 n1, .int .i64 u1, .int .i64 f1, .int .i64 m1, .slice a1 l1 c1, .bool b1] := by rw [hA]; exact HasObj.new _ _ _
 have hbn : Below w.heap.size w ws1 := by rw [hA]; exact (Below.refl _ _).alloc (Nat.le_refl _) _
 have loA : w.heap.size ≤ w.heap.size := (uh BB).size
 have EA := hA.symm; clear hA; have sz1 := hide (hbn.size); replace BB := hide (below_y (uh BB) hbn); clear hbn; have A := hide Ax; clear Ax
 obtain ⟨ws2, hD⟩ : ∃ X, X = ws1.alloc (.cells ([.int .i64 k2, .int .i64 n2, .int .i64 u2, .int .i64 f2, .int .i64 m2, .slice a2 l2 c2, .bool b2] : List Value).toArray 30) := ⟨_, rfl⟩
 have Dx : HasObj ws2 ws1.heap.size 30 [.int .i64 k2, .int .i64 n2, .int .i64 u2, .int .i64 f2, .int .i64 m2, .slice a2 l2 c2, .bool b2] := by rw [hD]; exact HasObj.new _ _ _
 have hbn : Below ws1.heap.size ws1 ws2 := by rw [hD]; exact (Below.refl _ _).alloc (Nat.le_refl _) _
 have neAD : w.heap.size ≠ ws1.heap.size := Nat.ne_of_lt (uh A).lt
 have loD : w.heap.size ≤ ws1.heap.size := (uh BB).size
 have ED := hD.symm; clear hD; replace A := hide ((uh A).ups hbn); have sz2 := hide (hbn.size); replace BB := hide (below_y (uh BB) hbn); clear hbn; have D := hide Dx; clear Dx; have Ac0_1 := (uh A).cell 0 rfl; have Ac1_1 := (uh A).cell 1 rfl; have Ac2_1 := (uh A).cell 2 rfl; have Ac3_1 := (uh A).cell 3 rfl; have Ac4_1 := (uh A).cell 4 rfl; have Ac5_1 := (uh A).cell 5 rfl; have Ac6_1 := (uh A).cell 6 rfl; have Dc0_2 := (uh D).cell 0 rfl; have Dc1_2 := (uh D).cell 1 rfl; have Dc2_2 := (uh D).cell 2 rfl; have Dc3_2 := (uh D).cell 3 rfl; have Dc4_2 := (uh D).cell 4 rfl; have Dc5_2 := (uh D).cell 5 rfl; have Dc6_2 := (uh D).cell 6 rfl
 by_cases hk : k1 = k2
 case neg =>
  have hA : Z = false := by rw [uh HZ]; simp [hk]
  clear HZ
  subst hA
  go_enter Tryd.func25, Tryd.ntmps25
  go_wp2
  go_ret
  exact ⟨rfl, uh BB⟩
 subst hk
 by_cases hn : n1 = n2
 case neg =>
  have hA : Z = false := by rw [uh HZ]; simp [hn]
  clear HZ
  subst hA
  go_enter Tryd.func25, Tryd.ntmps25
  go_wp2
  go_ret
  exact ⟨rfl, uh BB⟩
 subst hn
 by_cases hu : u1 = u2
 case neg =>
  have hA : Z = false := by rw [uh HZ]; simp [hu]
  clear HZ
  subst hA
  go_enter Tryd.func25, Tryd.ntmps25
  go_wp2
  go_ret
  exact ⟨rfl, uh BB⟩
 subst hu
 by_cases hf : f1 = f2
 case neg =>
  have hA : Z = false := by rw [uh HZ]; simp [hf]
  clear HZ
  subst hA
  go_enter Tryd.func25, Tryd.ntmps25
  go_wp2
  go_ret
  exact ⟨rfl, uh BB⟩
 subst hf
 by_cases hm : m1 = m2
 case neg =>
  have hA : Z = false := by rw [uh HZ]; simp [hm]
  clear HZ
  subst hA
  go_enter Tryd.func25, Tryd.ntmps25
  go_wp2
  go_ret
  exact ⟨rfl, uh BB⟩
 subst hm
 go_enter Tryd.func25, Tryd.ntmps25
 go_wp2_with fail; clear Ac0_1 Ac1_1 Ac2_1 Ac3_1 Ac4_1 Ac5_1 Ac6_1 Dc0_2 Dc1_2 Dc2_2 Dc3_2 Dc4_2 Dc5_2 Dc6_2 EA ED
 refine (uh HQ _ (uh BB)).mono ?_
 rintro e ws3 ⟨rfl, hb⟩
 replace A := hide ((uh A).ups hb); replace D := hide ((uh D).ups hb); have sz3 := hide (hb.size); replace BB := hide (below_y (uh BB) hb); clear hb; have Ac0_3 := (uh A).cell 0 rfl; have Ac1_3 := (uh A).cell 1 rfl; have Ac2_3 := (uh A).cell 2 rfl; have Ac3_3 := (uh A).cell 3 rfl; have Ac4_3 := (uh A).cell 4 rfl; have Ac5_3 := (uh A).cell 5 rfl; have Ac6_3 := (uh A).cell 6 rfl; have Dc0_4 := (uh D).cell 0 rfl; have Dc1_4 := (uh D).cell 1 rfl; have Dc2_4 := (uh D).cell 2 rfl; have Dc3_4 := (uh D).cell 3 rfl; have Dc4_4 := (uh D).cell 4 rfl; have Dc5_4 := (uh D).cell 5 rfl; have Dc6_4 := (uh D).cell 6 rfl
 cases hE : E with
 | false =>
  have hA : Z = false := by rw [uh HZ]; simp [hE]
  clear HZ
  subst hA
  go_wp2
  go_ret
  exact ⟨rfl, uh BB⟩
 | true =>
  have hA : Z = (b1 == b2) := by rw [uh HZ]; simp [hE]
  clear HZ
  subst hA
  cases b1 <;> cases b2 <;> (go_wp2; go_ret; exact ⟨rfl, uh BB⟩)
set_option maxHeartbeats 4000000 in
set_option maxRecDepth 100000 in
theorem lineUses1 (num uid flags mod : Int) (all : Bool) (n : Nat) (a : Option Addr) (c : Nat) (w : World) :
  Calls Tryd.prog 26 #[.agg #[.int .i64 1, .int .i64 num, .int .i64 uid, .int .i64 flags, .int .i64 mod, .slice a n c, .bool all]] w fun e w' => e = .returned (.agg #[.int .i64 1, .int .i64 num, .int .i64 0, .int .i64 0, .int .i64 0, .slice none 0 0, .bool false]) ∧ Below w.heap.size w w' := by
 have BB := hide (Below.refl w.heap.size w)
 obtain ⟨wu1, hA⟩ : ∃ X, X = w.alloc (.cells ([.int .i64 1, .int .i64 num, .int .i64 uid, .int .i64 flags, .int .i64 mod, .slice a n c, .bool all] : List Value).toArray 30) := ⟨_, rfl⟩
 have Ax : HasObj wu1 w.heap.size 30 [.int .i64 1, .int .i64 num, .int .i64 uid, .int .i64 flags, .int .i64 mod, .slice a n c, .bool all] := by rw [hA]; exact HasObj.new _ _ _
 have hbn : Below w.heap.size w wu1 := by rw [hA]; exact (Below.refl _ _).alloc (Nat.le_refl _) _
 have loA : w.heap.size ≤ w.heap.size := (uh BB).size
 have EA := hA.symm; clear hA; have sz1 := hide (hbn.size); replace BB := hide (below_y (uh BB) hbn); clear hbn; have A := hide Ax; clear Ax
 obtain ⟨wu2, hR⟩ : ∃ X, X = wu1.alloc (.cells ([.int .i64 0, .int .i64 0, .int .i64 0, .int .i64 0, .int .i64 0, .slice none 0 0, .bool false] : List Value).toArray 30) := ⟨_, rfl⟩
 have Rx : HasObj wu2 wu1.heap.size 30 [.int .i64 0, .int .i64 0, .int .i64 0, .int .i64 0, .int .i64 0, .slice none 0 0, .bool false] := by rw [hR]; exact HasObj.new _ _ _
 have hbn : Below wu1.heap.size wu1 wu2 := by rw [hR]; exact (Below.refl _ _).alloc (Nat.le_refl _) _
 have neAR : w.heap.size ≠ wu1.heap.size := Nat.ne_of_lt (uh A).lt
 have loR : w.heap.size ≤ wu1.heap.size := (uh BB).size
 have ER := hR.symm; clear hR; replace A := hide ((uh A).ups hbn); have sz2 := hide (hbn.size); replace BB := hide (below_y (uh BB) hbn); clear hbn; have R := hide Rx; clear Rx; have Ac0_1 := (uh A).cell 0 rfl; have Ac1_1 := (uh A).cell 1 rfl; have Ac2_1 := (uh A).cell 2 rfl; have Ac3_1 := (uh A).cell 3 rfl; have Ac4_1 := (uh A).cell 4 rfl; have Ac5_1 := (uh A).cell 5 rfl; have Ac6_1 := (uh A).cell 6 rfl
 go_enter Tryd.func26, Tryd.ntmps26
 have Rf0 := (uh R).frozen 0; have Rf1 := (uh R).frozen 1; have Rf2 := (uh R).frozen 2; have Rf3 := (uh R).frozen 3; have Rf4 := (uh R).frozen 4; have Rf5 := (uh R).frozen 5; have Rf6 := (uh R).frozen 6; have Re0 := (uh R).cell 0 rfl; have Re1 := (uh R).cell 1 rfl; have Re2 := (uh R).cell 2 rfl; have Re3 := (uh R).cell 3 rfl; have Re4 := (uh R).cell 4 rfl; have Re5 := (uh R).cell 5 rfl; have Re6 := (uh R).cell 6 rfl; have F := hide (fill7 (uh R) (.int .i64 1) (.int .i64 num) (.int .i64 0) (.int .i64 0) (.int .i64 0) (.slice none 0 0) (.bool false))
 obtain ⟨U, hU⟩ : ∃ U, U = (((((((wu2.setCell ⟨wu1.heap.size, 0, none⟩ (.int .i64 1)).setCell ⟨wu1.heap.size, 1, none⟩ (.int .i64 num)).setCell ⟨wu1.heap.size, 2, none⟩ (.int .i64 0)).setCell ⟨wu1.heap.size, 3, none⟩ (.int .i64 0)).setCell ⟨wu1.heap.size, 4, none⟩ (.int .i64 0)).setCell ⟨wu1.heap.size, 5, none⟩ (.slice none 0 0)).setCell ⟨wu1.heap.size, 6, none⟩ (.bool false)) := ⟨_, rfl⟩
 have F9 := uh F
 rw [← hU] at F9
 have EU := hU.symm; clear F hU; have v0 := F9.obj.cell 0 rfl; have v1 := F9.obj.cell 1 rfl; have v2 := F9.obj.cell 2 rfl; have v3 := F9.obj.cell 3 rfl; have v4 := F9.obj.cell 4 rfl; have v5 := F9.obj.cell 5 rfl; have v6 := F9.obj.cell 6 rfl; have F := hide F9; clear F9
 go_wp2_with (refine bodyPost_ret (by simp [results, Tryd.results26, go_sem, v0, v1, v2, v3, v4, v5, v6]; try rfl) rfl ?_)
 clear EU; have F := uh F
 exact F.below loR (uh BB)
set_option maxHeartbeats 4000000 in
set_option maxRecDepth 100000 in
theorem lineUses2 (num uid flags mod : Int) (all : Bool) (n : Nat) (a : Option Addr) (c : Nat) (w : World) :
  Calls Tryd.prog 26 #[.agg #[.int .i64 2, .int .i64 num, .int .i64 uid, .int .i64 flags, .int .i64 mod, .slice a n c, .bool all]] w fun e w' => e = .returned (.agg #[.int .i64 2, .int .i64 num, .int .i64 0, .int .i64 0, .int .i64 0, .slice none 0 0, .bool false]) ∧ Below w.heap.size w w' := by
 have BB := hide (Below.refl w.heap.size w)
 obtain ⟨wu1, hA⟩ : ∃ X, X = w.alloc (.cells ([.int .i64 2, .int .i64 num, .int .i64 uid, .int .i64 flags, .int .i64 mod, .slice a n c, .bool all] : List Value).toArray 30) := ⟨_, rfl⟩
 have Ax : HasObj wu1 w.heap.size 30 [.int .i64 2, .int .i64 num, .int .i64 uid, .int .i64 flags, .int .i64 mod, .slice a n c, .bool all] := by rw [hA]; exact HasObj.new _ _ _
 have hbn : Below w.heap.size w wu1 := by rw [hA]; exact (Below.refl _ _).alloc (Nat.le_refl _) _
 have loA : w.heap.size ≤ w.heap.size := (uh BB).size
 have EA := hA.symm; clear hA; have sz1 := hide (hbn.size); replace BB := hide (below_y (uh BB) hbn); clear hbn; have A := hide Ax; clear Ax
 obtain ⟨wu2, hR⟩ : ∃ X, X = wu1.alloc (.cells ([.int .i64 0, .int .i64 0, .int .i64 0, .int .i64 0, .int .i64 0, .slice none 0 0, .bool false] : List Value).toArray 30) := ⟨_, rfl⟩
 have Rx : HasObj wu2 wu1.heap.size 30 [.int .i64 0, .int .i64 0, .int .i64 0, .int .i64 0, .int .i64 0, .slice none 0 0, .bool false] := by rw [hR]; exact HasObj.new _ _ _
 have hbn : Below wu1.heap.size wu1 wu2 := by rw [hR]; exact (Below.refl _ _).alloc (Nat.le_refl _) _
 have neAR : w.heap.size ≠ wu1.heap.size := Nat.ne_of_lt (uh A).lt
 have loR : w.heap.size ≤ wu1.heap.size := (uh BB).size
 have ER := hR.symm; clear hR; replace A := hide ((uh A).ups hbn); have sz2 := hide (hbn.size); replace BB := hide (below_y (uh BB) hbn); clear hbn; have R := hide Rx; clear Rx; have Ac0_1 := (uh A).cell 0 rfl; have Ac1_1 := (uh A).cell 1 rfl; have Ac2_1 := (uh A).cell 2 rfl; have Ac3_1 := (uh A).cell 3 rfl; have Ac4_1 := (uh A).cell 4 rfl; have Ac5_1 := (uh A).cell 5 rfl; have Ac6_1 := (uh A).cell 6 rfl
 go_enter Tryd.func26, Tryd.ntmps26
 have Rf0 := (uh R).frozen 0; have Rf1 := (uh R).frozen 1; have Rf2 := (uh R).frozen 2; have Rf3 := (uh R).frozen 3; have Rf4 := (uh R).frozen 4; have Rf5 := (uh R).frozen 5; have Rf6 := (uh R).frozen 6; have Re0 := (uh R).cell 0 rfl; have Re1 := (uh R).cell 1 rfl; have Re2 := (uh R).cell 2 rfl; have Re3 := (uh R).cell 3 rfl; have Re4 := (uh R).cell 4 rfl; have Re5 := (uh R).cell 5 rfl; have Re6 := (uh R).cell 6 rfl; have F := hide (fill7 (uh R) (.int .i64 2) (.int .i64 num) (.int .i64 0) (.int .i64 0) (.int .i64 0) (.slice none 0 0) (.bool false))
 obtain ⟨U, hU⟩ : ∃ U, U = (((((((wu2.setCell ⟨wu1.heap.size, 0, none⟩ (.int .i64 2)).setCell ⟨wu1.heap.size, 1, none⟩ (.int .i64 num)).setCell ⟨wu1.heap.size, 2, none⟩ (.int .i64 0)).setCell ⟨wu1.heap.size, 3, none⟩ (.int .i64 0)).setCell ⟨wu1.heap.size, 4, none⟩ (.int .i64 0)).setCell ⟨wu1.heap.size, 5, none⟩ (.slice none 0 0)).setCell ⟨wu1.heap.size, 6, none⟩ (.bool false)) := ⟨_, rfl⟩
 have F9 := uh F
 rw [← hU] at F9
 have EU := hU.symm; clear F hU; have v0 := F9.obj.cell 0 rfl; have v1 := F9.obj.cell 1 rfl; have v2 := F9.obj.cell 2 rfl; have v3 := F9.obj.cell 3 rfl; have v4 := F9.obj.cell 4 rfl; have v5 := F9.obj.cell 5 rfl; have v6 := F9.obj.cell 6 rfl; have F := hide F9; clear F9
 go_wp2_with (refine bodyPost_ret (by simp [results, Tryd.results26, go_sem, v0, v1, v2, v3, v4, v5, v6]; try rfl) rfl ?_)
 clear EU; have F := uh F
 exact F.below loR (uh BB)
set_option maxHeartbeats 4000000 in
set_option maxRecDepth 100000 in
theorem lineUses3 (num uid flags mod : Int) (all : Bool) (n : Nat) (a : Option Addr) (c : Nat) (w : World) :
  Calls Tryd.prog 26 #[.agg #[.int .i64 3, .int .i64 num, .int .i64 uid, .int .i64 flags, .int .i64 mod, .slice a n c, .bool all]] w fun e w' => e = .returned (.agg #[.int .i64 3, .int .i64 num, .int .i64 uid, .int .i64 flags, .int .i64 mod, .slice none 0 0, .bool false]) ∧ Below w.heap.size w w' := by
 have BB := hide (Below.refl w.heap.size w)
 obtain ⟨wu1, hA⟩ : ∃ X, X = w.alloc (.cells ([.int .i64 3, .int .i64 num, .int .i64 uid, .int .i64 flags, .int .i64 mod, .slice a n c, .bool all] : List Value).toArray 30) := ⟨_, rfl⟩
 have Ax : HasObj wu1 w.heap.size 30 [.int .i64 3, .int .i64 num, .int .i64 uid, .int .i64 flags, .int .i64 mod, .slice a n c, .bool all] := by rw [hA]; exact HasObj.new _ _ _
 have hbn : Below w.heap.size w wu1 := by rw [hA]; exact (Below.refl _ _).alloc (Nat.le_refl _) _
 have loA : w.heap.size ≤ w.heap.size := (uh BB).size
 have EA := hA.symm; clear hA; have sz1 := hide (hbn.size); replace BB := hide (below_y (uh BB) hbn); clear hbn; have A := hide Ax; clear Ax
 obtain ⟨wu2, hR⟩ : ∃ X, X = wu1.alloc (.cells ([.int .i64 0, .int .i64 0, .int .i64 0, .int .i64 0, .int .i64 0, .slice none 0 0, .bool false] : List Value).toArray 30) := ⟨_, rfl⟩
 have Rx : HasObj wu2 wu1.heap.size 30 [.int .i64 0, .int .i64 0, .int .i64 0, .int .i64 0, .int .i64 0, .slice none 0 0, .bool false] := by rw [hR]; exact HasObj.new _ _ _
 have hbn : Below wu1.heap.size wu1 wu2 := by rw [hR]; exact (Below.refl _ _).alloc (Nat.le_refl _) _
 have neAR : w.heap.size ≠ wu1.heap.size := Nat.ne_of_lt (uh A).lt
 have loR : w.heap.size ≤ wu1.heap.size := (uh BB).size
 have ER := hR.symm; clear hR; replace A := hide ((uh A).ups hbn); have sz2 := hide (hbn.size); replace BB := hide (below_y (uh BB) hbn); clear hbn; have R := hide Rx; clear Rx; have Ac0_1 := (uh A).cell 0 rfl; have Ac1_1 := (uh A).cell 1 rfl; have Ac2_1 := (uh A).cell 2 rfl; have Ac3_1 := (uh A).cell 3 rfl; have Ac4_1 := (uh A).cell 4 rfl; have Ac5_1 := (uh A).cell 5 rfl; have Ac6_1 := (uh A).cell 6 rfl
 go_enter Tryd.func26, Tryd.ntmps26
 have Rf0 := (uh R).frozen 0; have Rf1 := (uh R).frozen 1; have Rf2 := (uh R).frozen 2; have Rf3 := (uh R).frozen 3; have Rf4 := (uh R).frozen 4; have Rf5 := (uh R).frozen 5; have Rf6 := (uh R).frozen 6; have Re0 := (uh R).cell 0 rfl; have Re1 := (uh R).cell 1 rfl; have Re2 := (uh R).cell 2 rfl; have Re3 := (uh R).cell 3 rfl; have Re4 := (uh R).cell 4 rfl; have Re5 := (uh R).cell 5 rfl; have Re6 := (uh R).cell 6 rfl; have F := hide (fill7 (uh R) (.int .i64 3) (.int .i64 num) (.int .i64 uid) (.int .i64 flags) (.int .i64 mod) (.slice none 0 0) (.bool false))
 obtain ⟨U, hU⟩ : ∃ U, U = (((((((wu2.setCell ⟨wu1.heap.size, 0, none⟩ (.int .i64 3)).setCell ⟨wu1.heap.size, 1, none⟩ (.int .i64 num)).setCell ⟨wu1.heap.size, 2, none⟩ (.int .i64 uid)).setCell ⟨wu1.heap.size, 3, none⟩ (.int .i64 flags)).setCell ⟨wu1.heap.size, 4, none⟩ (.int .i64 mod)).setCell ⟨wu1.heap.size, 5, none⟩ (.slice none 0 0)).setCell ⟨wu1.heap.size, 6, none⟩ (.bool false)) := ⟨_, rfl⟩
 have F9 := uh F
 rw [← hU] at F9
 have EU := hU.symm; clear F hU; have v0 := F9.obj.cell 0 rfl; have v1 := F9.obj.cell 1 rfl; have v2 := F9.obj.cell 2 rfl; have v3 := F9.obj.cell 3 rfl; have v4 := F9.obj.cell 4 rfl; have v5 := F9.obj.cell 5 rfl; have v6 := F9.obj.cell 6 rfl; have F := hide F9; clear F9
 go_wp2_with (refine bodyPost_ret (by simp [results, Tryd.results26, go_sem, v0, v1, v2, v3, v4, v5, v6]; try rfl) rfl ?_)
 clear EU; have F := uh F
 exact F.below loR (uh BB)
set_option maxHeartbeats 4000000 in
set_option maxRecDepth 100000 in
theorem lineUses4 (num uid flags mod : Int) (all : Bool) (n : Nat) (a : Option Addr) (c : Nat) (w : World) :
  Calls Tryd.prog 26 #[.agg #[.int .i64 4, .int .i64 num, .int .i64 uid, .int .i64 flags, .int .i64 mod, .slice a n c, .bool all]] w fun e w' => e = .returned (.agg #[.int .i64 4, .int .i64 0, .int .i64 0, .int .i64 0, .int .i64 0, .slice a n c, .bool false]) ∧ Below w.heap.size w w' := by
 have BB := hide (Below.refl w.heap.size w)
 obtain ⟨wu1, hA⟩ : ∃ X, X = w.alloc (.cells ([.int .i64 4, .int .i64 num, .int .i64 uid, .int .i64 flags, .int .i64 mod, .slice a n c, .bool all] : List Value).toArray 30) := ⟨_, rfl⟩
 have Ax : HasObj wu1 w.heap.size 30 [.int .i64 4, .int .i64 num, .int .i64 uid, .int .i64 flags, .int .i64 mod, .slice a n c, .bool all] := by rw [hA]; exact HasObj.new _ _ _
 have hbn : Below w.heap.size w wu1 := by rw [hA]; exact (Below.refl _ _).alloc (Nat.le_refl _) _
 have loA : w.heap.size ≤ w.heap.size := (uh BB).size
 have EA := hA.symm; clear hA; have sz1 := hide (hbn.size); replace BB := hide (below_y (uh BB) hbn); clear hbn; have A := hide Ax; clear Ax
 obtain ⟨wu2, hR⟩ : ∃ X, X = wu1.alloc (.cells ([.int .i64 0, .int .i64 0, .int .i64 0, .int .i64 0, .int .i64 0, .slice none 0 0, .bool false] : List Value).toArray 30) := ⟨_, rfl⟩
 have Rx : HasObj wu2 wu1.heap.size 30 [.int .i64 0, .int .i64 0, .int .i64 0, .int .i64 0, .int .i64 0, .slice none 0 0, .bool false] := by rw [hR]; exact HasObj.new _ _ _
 have hbn : Below wu1.heap.size wu1 wu2 := by rw [hR]; exact (Below.refl _ _).alloc (Nat.le_refl _) _
 have neAR : w.heap.size ≠ wu1.heap.size := Nat.ne_of_lt (uh A).lt
 have loR : w.heap.size ≤ wu1.heap.size := (uh BB).size
 have ER := hR.symm; clear hR; replace A := hide ((uh A).ups hbn); have sz2 := hide (hbn.size); replace BB := hide (below_y (uh BB) hbn); clear hbn; have R := hide Rx; clear Rx; have Ac0_1 := (uh A).cell 0 rfl; have Ac1_1 := (uh A).cell 1 rfl; have Ac2_1 := (uh A).cell 2 rfl; have Ac3_1 := (uh A).cell 3 rfl; have Ac4_1 := (uh A).cell 4 rfl; have Ac5_1 := (uh A).cell 5 rfl; have Ac6_1 := (uh A).cell 6 rfl
 go_enter Tryd.func26, Tryd.ntmps26
 have Rf0 := (uh R).frozen 0; have Rf1 := (uh R).frozen 1; have Rf2 := (uh R).frozen 2; have Rf3 := (uh R).frozen 3; have Rf4 := (uh R).frozen 4; have Rf5 := (uh R).frozen 5; have Rf6 := (uh R).frozen 6; have Re0 := (uh R).cell 0 rfl; have Re1 := (uh R).cell 1 rfl; have Re2 := (uh R).cell 2 rfl; have Re3 := (uh R).cell 3 rfl; have Re4 := (uh R).cell 4 rfl; have Re5 := (uh R).cell 5 rfl; have Re6 := (uh R).cell 6 rfl; have F := hide (fill7 (uh R) (.int .i64 4) (.int .i64 0) (.int .i64 0) (.int .i64 0) (.int .i64 0) (.slice a n c) (.bool false))
 obtain ⟨U, hU⟩ : ∃ U, U = (((((((wu2.setCell ⟨wu1.heap.size, 0, none⟩ (.int .i64 4)).setCell ⟨wu1.heap.size, 1, none⟩ (.int .i64 0)).setCell ⟨wu1.heap.size, 2, none⟩ (.int .i64 0)).setCell ⟨wu1.heap.size, 3, none⟩ (.int .i64 0)).setCell ⟨wu1.heap.size, 4, none⟩ (.int .i64 0)).setCell ⟨wu1.heap.size, 5, none⟩ (.slice a n c)).setCell ⟨wu1.heap.size, 6, none⟩ (.bool false)) := ⟨_, rfl⟩
 have F9 := uh F
 rw [← hU] at F9
 have EU := hU.symm; clear F hU; have v0 := F9.obj.cell 0 rfl; have v1 := F9.obj.cell 1 rfl; have v2 := F9.obj.cell 2 rfl; have v3 := F9.obj.cell 3 rfl; have v4 := F9.obj.cell 4 rfl; have v5 := F9.obj.cell 5 rfl; have v6 := F9.obj.cell 6 rfl; have F := hide F9; clear F9
 go_wp2_with (refine bodyPost_ret (by simp [results, Tryd.results26, go_sem, v0, v1, v2, v3, v4, v5, v6]; try rfl) rfl ?_)
 clear EU; have F := uh F
 exact F.below loR (uh BB)
set_option maxHeartbeats 4000000 in
set_option maxRecDepth 100000 in
theorem lineUses5 (num uid flags mod : Int) (all : Bool) (n : Nat) (a : Option Addr) (c : Nat) (w : World) :
  Calls Tryd.prog 26 #[.agg #[.int .i64 5, .int .i64 num, .int .i64 uid, .int .i64 flags, .int .i64 mod, .slice a n c, .bool all]] w fun e w' => e = .returned (.agg #[.int .i64 5, .int .i64 num, .int .i64 0, .int .i64 0, .int .i64 mod, .slice none 0 0, .bool all]) ∧ Below w.heap.size w w' := by
 have BB := hide (Below.refl w.heap.size w)
 obtain ⟨wu1, hA⟩ : ∃ X, X = w.alloc (.cells ([.int .i64 5, .int .i64 num, .int .i64 uid, .int .i64 flags, .int .i64 mod, .slice a n c, .bool all] : List Value).toArray 30) := ⟨_, rfl⟩
 have Ax : HasObj wu1 w.heap.size 30 [.int .i64 5, .int .i64 num, .int .i64 uid, .int .i64 flags, .int .i64 mod, .slice a n c, .bool all] := by rw [hA]; exact HasObj.new _ _ _
 have hbn : Below w.heap.size w wu1 := by rw [hA]; exact (Below.refl _ _).alloc (Nat.le_refl _) _
 have loA : w.heap.size ≤ w.heap.size := (uh BB).size
 have EA := hA.symm; clear hA; have sz1 := hide (hbn.size); replace BB := hide (below_y (uh BB) hbn); clear hbn; have A := hide Ax; clear Ax
 obtain ⟨wu2, hR⟩ : ∃ X, X = wu1.alloc (.cells ([.int .i64 0, .int .i64 0, .int .i64 0, .int .i64 0, .int .i64 0, .slice none 0 0, .bool false] : List Value).toArray 30) := ⟨_, rfl⟩
 have Rx : HasObj wu2 wu1.heap.size 30 [.int .i64 0, .int .i64 0, .int .i64 0, .int .i64 0, .int .i64 0, .slice none 0 0, .bool false] := by rw [hR]; exact HasObj.new _ _ _
 have hbn : Below wu1.heap.size wu1 wu2 := by rw [hR]; exact (Below.refl _ _).alloc (Nat.le_refl _) _
 have neAR : w.heap.size ≠ wu1.heap.size := Nat.ne_of_lt (uh A).lt
 have loR : w.heap.size ≤ wu1.heap.size := (uh BB).size
 have ER := hR.symm; clear hR; replace A := hide ((uh A).ups hbn); have sz2 := hide (hbn.size); replace BB := hide (below_y (uh BB) hbn); clear hbn; have R := hide Rx; clear Rx; have Ac0_1 := (uh A).cell 0 rfl; have Ac1_1 := (uh A).cell 1 rfl; have Ac2_1 := (uh A).cell 2 rfl; have Ac3_1 := (uh A).cell 3 rfl; have Ac4_1 := (uh A).cell 4 rfl; have Ac5_1 := (uh A).cell 5 rfl; have Ac6_1 := (uh A).cell 6 rfl
 go_enter Tryd.func26, Tryd.ntmps26
 have Rf0 := (uh R).frozen 0; have Rf1 := (uh R).frozen 1; have Rf2 := (uh R).frozen 2; have Rf3 := (uh R).frozen 3; have Rf4 := (uh R).frozen 4; have Rf5 := (uh R).frozen 5; have Rf6 := (uh R).frozen 6; have Re0 := (uh R).cell 0 rfl; have Re1 := (uh R).cell 1 rfl; have Re2 := (uh R).cell 2 rfl; have Re3 := (uh R).cell 3 rfl; have Re4 := (uh R).cell 4 rfl; have Re5 := (uh R).cell 5 rfl; have Re6 := (uh R).cell 6 rfl; have F := hide (fill7 (uh R) (.int .i64 5) (.int .i64 num) (.int .i64 0) (.int .i64 0) (.int .i64 mod) (.slice none 0 0) (.bool all))
 obtain ⟨U, hU⟩ : ∃ U, U = (((((((wu2.setCell ⟨wu1.heap.size, 0, none⟩ (.int .i64 5)).setCell ⟨wu1.heap.size, 1, none⟩ (.int .i64 num)).setCell ⟨wu1.heap.size, 2, none⟩ (.int .i64 0)).setCell ⟨wu1.heap.size, 3, none⟩ (.int .i64 0)).setCell ⟨wu1.heap.size, 4, none⟩ (.int .i64 mod)).setCell ⟨wu1.heap.size, 5, none⟩ (.slice none 0 0)).setCell ⟨wu1.heap.size, 6, none⟩ (.bool all)) := ⟨_, rfl⟩
 have F9 := uh F
 rw [← hU] at F9
 have EU := hU.symm; clear F hU; have v0 := F9.obj.cell 0 rfl; have v1 := F9.obj.cell 1 rfl; have v2 := F9.obj.cell 2 rfl; have v3 := F9.obj.cell 3 rfl; have v4 := F9.obj.cell 4 rfl; have v5 := F9.obj.cell 5 rfl; have v6 := F9.obj.cell 6 rfl; have F := hide F9; clear F9
 go_wp2_with (refine bodyPost_ret (by simp [results, Tryd.results26, go_sem, v0, v1, v2, v3, v4, v5, v6]; try rfl) rfl ?_)
 clear EU; have F := uh F
 exact F.below loR (uh BB)
set_option maxHeartbeats 4000000 in
set_option maxRecDepth 100000 in
theorem lineUses6 (num uid flags mod : Int) (all : Bool) (n : Nat) (a : Option Addr) (c : Nat) (w : World) :
  Calls Tryd.prog 26 #[.agg #[.int .i64 6, .int .i64 num, .int .i64 uid, .int .i64 flags, .int .i64 mod, .slice a n c, .bool all]] w fun e w' => e = .returned (.agg #[.int .i64 6, .int .i64 0, .int .i64 0, .int .i64 0, .int .i64 0, .slice a n c, .bool false]) ∧ Below w.heap.size w w' := by
 have BB := hide (Below.refl w.heap.size w)
 obtain ⟨wu1, hA⟩ : ∃ X, X = w.alloc (.cells ([.int .i64 6, .int .i64 num, .int .i64 uid, .int .i64 flags, .int .i64 mod, .slice a n c, .bool all] : List Value).toArray 30) := ⟨_, rfl⟩
 have Ax : HasObj wu1 w.heap.size 30 [.int .i64 6, .int .i64 num, .int .i64 uid, .int .i64 flags, .int .i64 mod, .slice a n c, .bool all] := by rw [hA]; exact HasObj.new _ _ _
 have hbn : Below w.heap.size w wu1 := by rw [hA]; exact (Below.refl _ _).alloc (Nat.le_refl _) _
 have loA : w.heap.size ≤ w.heap.size := (uh BB).size
 have EA := hA.symm; clear hA; have sz1 := hide (hbn.size); replace BB := hide (below_y (uh BB) hbn); clear hbn; have A := hide Ax; clear Ax
 obtain ⟨wu2, hR⟩ : ∃ X, X = wu1.alloc (.cells ([.int .i64 0, .int .i64 0, .int .i64 0, .int .i64 0, .int .i64 0, .slice none 0 0, .bool false] : List Value).toArray 30) := ⟨_, rfl⟩
 have Rx : HasObj wu2 wu1.heap.size 30 [.int .i64 0, .int .i64 0, .int .i64 0, .int .i64 0, .int .i64 0, .slice none 0 0, .bool false] := by rw [hR]; exact HasObj.new _ _ _
 have hbn : Below wu1.heap.size wu1 wu2 := by rw [hR]; exact (Below.refl _ _).alloc (Nat.le_refl _) _
 have neAR : w.heap.size ≠ wu1.heap.size := Nat.ne_of_lt (uh A).lt
 have loR : w.heap.size ≤ wu1.heap.size := (uh BB).size
 have ER := hR.symm; clear hR; replace A := hide ((uh A).ups hbn); have sz2 := hide (hbn.size); replace BB := hide (below_y (uh BB) hbn); clear hbn; have R := hide Rx; clear Rx; have Ac0_1 := (uh A).cell 0 rfl; have Ac1_1 := (uh A).cell 1 rfl; have Ac2_1 := (uh A).cell 2 rfl; have Ac3_1 := (uh A).cell 3 rfl; have Ac4_1 := (uh A).cell 4 rfl; have Ac5_1 := (uh A).cell 5 rfl; have Ac6_1 := (uh A).cell 6 rfl
 go_enter Tryd.func26, Tryd.ntmps26
 have Rf0 := (uh R).frozen 0; have Rf1 := (uh R).frozen 1; have Rf2 := (uh R).frozen 2; have Rf3 := (uh R).frozen 3; have Rf4 := (uh R).frozen 4; have Rf5 := (uh R).frozen 5; have Rf6 := (uh R).frozen 6; have Re0 := (uh R).cell 0 rfl; have Re1 := (uh R).cell 1 rfl; have Re2 := (uh R).cell 2 rfl; have Re3 := (uh R).cell 3 rfl; have Re4 := (uh R).cell 4 rfl; have Re5 := (uh R).cell 5 rfl; have Re6 := (uh R).cell 6 rfl; have F := hide (fill7 (uh R) (.int .i64 6) (.int .i64 0) (.int .i64 0) (.int .i64 0) (.int .i64 0) (.slice a n c) (.bool false))
 obtain ⟨U, hU⟩ : ∃ U, U = (((((((wu2.setCell ⟨wu1.heap.size, 0, none⟩ (.int .i64 6)).setCell ⟨wu1.heap.size, 1, none⟩ (.int .i64 0)).setCell ⟨wu1.heap.size, 2, none⟩ (.int .i64 0)).setCell ⟨wu1.heap.size, 3, none⟩ (.int .i64 0)).setCell ⟨wu1.heap.size, 4, none⟩ (.int .i64 0)).setCell ⟨wu1.heap.size, 5, none⟩ (.slice a n c)).setCell ⟨wu1.heap.size, 6, none⟩ (.bool false)) := ⟨_, rfl⟩
 have F9 := uh F
 rw [← hU] at F9
 have EU := hU.symm; clear F hU; have v0 := F9.obj.cell 0 rfl; have v1 := F9.obj.cell 1 rfl; have v2 := F9.obj.cell 2 rfl; have v3 := F9.obj.cell 3 rfl; have v4 := F9.obj.cell 4 rfl; have v5 := F9.obj.cell 5 rfl; have v6 := F9.obj.cell 6 rfl; have F := hide F9; clear F9
 go_wp2_with (refine bodyPost_ret (by simp [results, Tryd.results26, go_sem, v0, v1, v2, v3, v4, v5, v6]; try rfl) rfl ?_)
 clear EU; have F := uh F
 exact F.below loR (uh BB)
set_option maxHeartbeats 4000000 in
set_option maxRecDepth 100000 in
theorem lineUses7 (num uid flags mod : Int) (all : Bool) (n : Nat) (a : Option Addr) (c : Nat) (w : World) :
  Calls Tryd.prog 26 #[.agg #[.int .i64 7, .int .i64 num, .int .i64 uid, .int .i64 flags, .int .i64 mod, .slice a n c, .bool all]] w fun e w' => e = .returned (.agg #[.int .i64 7, .int .i64 0, .int .i64 0, .int .i64 0, .int .i64 0, .slice none 0 0, .bool false]) ∧ Below w.heap.size w w' := by
 have BB := hide (Below.refl w.heap.size w)
 obtain ⟨wu1, hA⟩ : ∃ X, X = w.alloc (.cells ([.int .i64 7, .int .i64 num, .int .i64 uid, .int .i64 flags, .int .i64 mod, .slice a n c, .bool all] : List Value).toArray 30) := ⟨_, rfl⟩
 have Ax : HasObj wu1 w.heap.size 30 [.int .i64 7, .int .i64 num, .int .i64 uid, .int .i64 flags, .int .i64 mod, .slice a n c, .bool all] := by rw [hA]; exact HasObj.new _ _ _
 have hbn : Below w.heap.size w wu1 := by rw [hA]; exact (Below.refl _ _).alloc (Nat.le_refl _) _
 have loA : w.heap.size ≤ w.heap.size := (uh BB).size
 have EA := hA.symm; clear hA; have sz1 := hide (hbn.size); replace BB := hide (below_y (uh BB) hbn); clear hbn; have A := hide Ax; clear Ax
 obtain ⟨wu2, hR⟩ : ∃ X, X = wu1.alloc (.cells ([.int .i64 0, .int .i64 0, .int .i64 0, .int .i64 0, .int .i64 0, .slice none 0 0, .bool false] : List Value).toArray 30) := ⟨_, rfl⟩
 have Rx : HasObj wu2 wu1.heap.size 30 [.int .i64 0, .int .i64 0, .int .i64 0, .int .i64 0, .int .i64 0, .slice none 0 0, .bool false] := by rw [hR]; exact HasObj.new _ _ _
 have hbn : Below wu1.heap.size wu1 wu2 := by rw [hR]; exact (Below.refl _ _).alloc (Nat.le_refl _) _
 have neAR : w.heap.size ≠ wu1.heap.size := Nat.ne_of_lt (uh A).lt
 have loR : w.heap.size ≤ wu1.heap.size := (uh BB).size
 have ER := hR.symm; clear hR; replace A := hide ((uh A).ups hbn); have sz2 := hide (hbn.size); replace BB := hide (below_y (uh BB) hbn); clear hbn; have R := hide Rx; clear Rx; have Ac0_1 := (uh A).cell 0 rfl; have Ac1_1 := (uh A).cell 1 rfl; have Ac2_1 := (uh A).cell 2 rfl; have Ac3_1 := (uh A).cell 3 rfl; have Ac4_1 := (uh A).cell 4 rfl; have Ac5_1 := (uh A).cell 5 rfl; have Ac6_1 := (uh A).cell 6 rfl
 go_enter Tryd.func26, Tryd.ntmps26
 have Rf0 := (uh R).frozen 0; have Rf1 := (uh R).frozen 1; have Rf2 := (uh R).frozen 2; have Rf3 := (uh R).frozen 3; have Rf4 := (uh R).frozen 4; have Rf5 := (uh R).frozen 5; have Rf6 := (uh R).frozen 6; have Re0 := (uh R).cell 0 rfl; have Re1 := (uh R).cell 1 rfl; have Re2 := (uh R).cell 2 rfl; have Re3 := (uh R).cell 3 rfl; have Re4 := (uh R).cell 4 rfl; have Re5 := (uh R).cell 5 rfl; have Re6 := (uh R).cell 6 rfl; have F := hide (fill7 (uh R) (.int .i64 7) (.int .i64 0) (.int .i64 0) (.int .i64 0) (.int .i64 0) (.slice none 0 0) (.bool false))
 obtain ⟨U, hU⟩ : ∃ U, U = (((((((wu2.setCell ⟨wu1.heap.size, 0, none⟩ (.int .i64 7)).setCell ⟨wu1.heap.size, 1, none⟩ (.int .i64 0)).setCell ⟨wu1.heap.size, 2, none⟩ (.int .i64 0)).setCell ⟨wu1.heap.size, 3, none⟩ (.int .i64 0)).setCell ⟨wu1.heap.size, 4, none⟩ (.int .i64 0)).setCell ⟨wu1.heap.size, 5, none⟩ (.slice none 0 0)).setCell ⟨wu1.heap.size, 6, none⟩ (.bool false)) := ⟨_, rfl⟩
 have F9 := uh F
 rw [← hU] at F9
 have EU := hU.symm; clear F hU; have v0 := F9.obj.cell 0 rfl; have v1 := F9.obj.cell 1 rfl; have v2 := F9.obj.cell 2 rfl; have v3 := F9.obj.cell 3 rfl; have v4 := F9.obj.cell 4 rfl; have v5 := F9.obj.cell 5 rfl; have v6 := F9.obj.cell 6 rfl; have F := hide F9; clear F9
 go_wp2_with (refine bodyPost_ret (by simp [results, Tryd.results26, go_sem, v0, v1, v2, v3, v4, v5, v6]; try rfl) rfl ?_)
 clear EU; have F := uh F
 exact F.below loR (uh BB)
set_option maxHeartbeats 4000000 in
set_option maxRecDepth 100000 in
theorem lineUses8 (num uid flags mod : Int) (all : Bool) (n : Nat) (a : Option Addr) (c : Nat) (w : World) :
  Calls Tryd.prog 26 #[.agg #[.int .i64 8, .int .i64 num, .int .i64 uid, .int .i64 flags, .int .i64 mod, .slice a n c, .bool all]] w fun e w' => e = .returned (.agg #[.int .i64 8, .int .i64 num, .int .i64 0, .int .i64 0, .int .i64 0, .slice none 0 0, .bool false]) ∧ Below w.heap.size w w' := by
 have BB := hide (Below.refl w.heap.size w)
 obtain ⟨wu1, hA⟩ : ∃ X, X = w.alloc (.cells ([.int .i64 8, .int .i64 num, .int .i64 uid, .int .i64 flags, .int .i64 mod, .slice a n c, .bool all] : List Value).toArray 30) := ⟨_, rfl⟩
 have Ax : HasObj wu1 w.heap.size 30 [.int .i64 8, .int .i64 num, .int .i64 uid, .int .i64 flags, .int .i64 mod, .slice a n c, .bool all] := by rw [hA]; exact HasObj.new _ _ _
 have hbn : Below w.heap.size w wu1 := by rw [hA]; exact (Below.refl _ _).alloc (Nat.le_refl _) _
 have loA : w.heap.size ≤ w.heap.size := (uh BB).size
 have EA := hA.symm; clear hA; have sz1 := hide (hbn.size); replace BB := hide (below_y (uh BB) hbn); clear hbn; have A := hide Ax; clear Ax
 obtain ⟨wu2, hR⟩ : ∃ X, X = wu1.alloc (.cells ([.int .i64 0, .int .i64 0, .int .i64 0, .int .i64 0, .int .i64 0, .slice none 0 0, .bool false] : List Value).toArray 30) := ⟨_, rfl⟩
 have Rx : HasObj wu2 wu1.heap.size 30 [.int .i64 0, .int .i64 0, .int .i64 0, .int .i64 0, .int .i64 0, .slice none 0 0, .bool false] := by rw [hR]; exact HasObj.new _ _ _
 have hbn : Below wu1.heap.size wu1 wu2 := by rw [hR]; exact (Below.refl _ _).alloc (Nat.le_refl _) _
 have neAR : w.heap.size ≠ wu1.heap.size := Nat.ne_of_lt (uh A).lt
 have loR : w.heap.size ≤ wu1.heap.size := (uh BB).size
 have ER := hR.symm; clear hR; replace A := hide ((uh A).ups hbn); have sz2 := hide (hbn.size); replace BB := hide (below_y (uh BB) hbn); clear hbn; have R := hide Rx; clear Rx; have Ac0_1 := (uh A).cell 0 rfl; have Ac1_1 := (uh A).cell 1 rfl; have Ac2_1 := (uh A).cell 2 rfl; have Ac3_1 := (uh A).cell 3 rfl; have Ac4_1 := (uh A).cell 4 rfl; have Ac5_1 := (uh A).cell 5 rfl; have Ac6_1 := (uh A).cell 6 rfl
 go_enter Tryd.func26, Tryd.ntmps26
 have Rf0 := (uh R).frozen 0; have Rf1 := (uh R).frozen 1; have Rf2 := (uh R).frozen 2; have Rf3 := (uh R).frozen 3; have Rf4 := (uh R).frozen 4; have Rf5 := (uh R).frozen 5; have Rf6 := (uh R).frozen 6; have Re0 := (uh R).cell 0 rfl; have Re1 := (uh R).cell 1 rfl; have Re2 := (uh R).cell 2 rfl; have Re3 := (uh R).cell 3 rfl; have Re4 := (uh R).cell 4 rfl; have Re5 := (uh R).cell 5 rfl; have Re6 := (uh R).cell 6 rfl; have F := hide (fill7 (uh R) (.int .i64 8) (.int .i64 num) (.int .i64 0) (.int .i64 0) (.int .i64 0) (.slice none 0 0) (.bool false))
 obtain ⟨U, hU⟩ : ∃ U, U = (((((((wu2.setCell ⟨wu1.heap.size, 0, none⟩ (.int .i64 8)).setCell ⟨wu1.heap.size, 1, none⟩ (.int .i64 num)).setCell ⟨wu1.heap.size, 2, none⟩ (.int .i64 0)).setCell ⟨wu1.heap.size, 3, none⟩ (.int .i64 0)).setCell ⟨wu1.heap.size, 4, none⟩ (.int .i64 0)).setCell ⟨wu1.heap.size, 5, none⟩ (.slice none 0 0)).setCell ⟨wu1.heap.size, 6, none⟩ (.bool false)) := ⟨_, rfl⟩
 have F9 := uh F
 rw [← hU] at F9
 have EU := hU.symm; clear F hU; have v0 := F9.obj.cell 0 rfl; have v1 := F9.obj.cell 1 rfl; have v2 := F9.obj.cell 2 rfl; have v3 := F9.obj.cell 3 rfl; have v4 := F9.obj.cell 4 rfl; have v5 := F9.obj.cell 5 rfl; have v6 := F9.obj.cell 6 rfl; have F := hide F9; clear F9
 go_wp2_with (refine bodyPost_ret (by simp [results, Tryd.results26, go_sem, v0, v1, v2, v3, v4, v5, v6]; try rfl) rfl ?_)
 clear EU; have F := uh F
 exact F.below loR (uh BB)
set_option maxHeartbeats 4000000 in
set_option maxRecDepth 100000 in
theorem lineUses9 (num uid flags mod : Int) (all : Bool) (n : Nat) (a : Option Addr) (c : Nat) (w : World) :
  Calls Tryd.prog 26 #[.agg #[.int .i64 9, .int .i64 num, .int .i64 uid, .int .i64 flags, .int .i64 mod, .slice a n c, .bool all]] w fun e w' => e = .returned (.agg #[.int .i64 9, .int .i64 0, .int .i64 0, .int .i64 0, .int .i64 0, .slice none 0 0, .bool false]) ∧ Below w.heap.size w w' := by
 have BB := hide (Below.refl w.heap.size w)
 obtain ⟨wu1, hA⟩ : ∃ X, X = w.alloc (.cells ([.int .i64 9, .int .i64 num, .int .i64 uid, .int .i64 flags, .int .i64 mod, .slice a n c, .bool all] : List Value).toArray 30) := ⟨_, rfl⟩
 have Ax : HasObj wu1 w.heap.size 30 [.int .i64 9, .int .i64 num, .int .i64 uid, .int .i64 flags, .int .i64 mod, .slice a n c, .bool all] := by rw [hA]; exact HasObj.new _ _ _
 have hbn : Below w.heap.size w wu1 := by rw [hA]; exact (Below.refl _ _).alloc (Nat.le_refl _) _
 have loA : w.heap.size ≤ w.heap.size := (uh BB).size
 have EA := hA.symm; clear hA; have sz1 := hide (hbn.size); replace BB := hide (below_y (uh BB) hbn); clear hbn; have A := hide Ax; clear Ax
 obtain ⟨wu2, hR⟩ : ∃ X, X = wu1.alloc (.cells ([.int .i64 0, .int .i64 0, .int .i64 0, .int .i64 0, .int .i64 0, .slice none 0 0, .bool false] : List Value).toArray 30) := ⟨_, rfl⟩
 have Rx : HasObj wu2 wu1.heap.size 30 [.int .i64 0, .int .i64 0, .int .i64 0, .int .i64 0, .int .i64 0, .slice none 0 0, .bool false] := by rw [hR]; exact HasObj.new _ _ _
 have hbn : Below wu1.heap.size wu1 wu2 := by rw [hR]; exact (Below.refl _ _).alloc (Nat.le_refl _) _
 have neAR : w.heap.size ≠ wu1.heap.size := Nat.ne_of_lt (uh A).lt
 have loR : w.heap.size ≤ wu1.heap.size := (uh BB).size
 have ER := hR.symm; clear hR; replace A := hide ((uh A).ups hbn); have sz2 := hide (hbn.size); replace BB := hide (below_y (uh BB) hbn); clear hbn; have R := hide Rx; clear Rx; have Ac0_1 := (uh A).cell 0 rfl; have Ac1_1 := (uh A).cell 1 rfl; have Ac2_1 := (uh A).cell 2 rfl; have Ac3_1 := (uh A).cell 3 rfl; have Ac4_1 := (uh A).cell 4 rfl; have Ac5_1 := (uh A).cell 5 rfl; have Ac6_1 := (uh A).cell 6 rfl
 go_enter Tryd.func26, Tryd.ntmps26
 have Rf0 := (uh R).frozen 0; have Rf1 := (uh R).frozen 1; have Rf2 := (uh R).frozen 2; have Rf3 := (uh R).frozen 3; have Rf4 := (uh R).frozen 4; have Rf5 := (uh R).frozen 5; have Rf6 := (uh R).frozen 6; have Re0 := (uh R).cell 0 rfl; have Re1 := (uh R).cell 1 rfl; have Re2 := (uh R).cell 2 rfl; have Re3 := (uh R).cell 3 rfl; have Re4 := (uh R).cell 4 rfl; have Re5 := (uh R).cell 5 rfl; have Re6 := (uh R).cell 6 rfl; have F := hide (fill7 (uh R) (.int .i64 9) (.int .i64 0) (.int .i64 0) (.int .i64 0) (.int .i64 0) (.slice none 0 0) (.bool false))
 obtain ⟨U, hU⟩ : ∃ U, U = (((((((wu2.setCell ⟨wu1.heap.size, 0, none⟩ (.int .i64 9)).setCell ⟨wu1.heap.size, 1, none⟩ (.int .i64 0)).setCell ⟨wu1.heap.size, 2, none⟩ (.int .i64 0)).setCell ⟨wu1.heap.size, 3, none⟩ (.int .i64 0)).setCell ⟨wu1.heap.size, 4, none⟩ (.int .i64 0)).setCell ⟨wu1.heap.size, 5, none⟩ (.slice none 0 0)).setCell ⟨wu1.heap.size, 6, none⟩ (.bool false)) := ⟨_, rfl⟩
 have F9 := uh F
 rw [← hU] at F9
 have EU := hU.symm; clear F hU; have v0 := F9.obj.cell 0 rfl; have v1 := F9.obj.cell 1 rfl; have v2 := F9.obj.cell 2 rfl; have v3 := F9.obj.cell 3 rfl; have v4 := F9.obj.cell 4 rfl; have v5 := F9.obj.cell 5 rfl; have v6 := F9.obj.cell 6 rfl; have F := hide F9; clear F9
 go_wp2_with (refine bodyPost_ret (by simp [results, Tryd.results26, go_sem, v0, v1, v2, v3, v4, v5, v6]; try rfl) rfl ?_)
 clear EU; have F := uh F
 exact F.below loR (uh BB)
set_option maxHeartbeats 4000000 in
set_option maxRecDepth 100000 in
theorem lineRight0 (kind : Int) (hk : inI kind 1 9 = false) (num uid flags mod : Int) (set : List Rg) (all : Bool) (n : Nat) (a : Option Addr) (c : Nat) (w : World) (hs : set.length ≤ 1048576) (hn : n = set.length) (hr : ReadO w (.slice a n c) set) :
  Calls Tryd.prog 24 #[.agg #[.int .i64 kind, .int .i64 num, .int .i64 uid, .int .i64 flags, .int .i64 mod, .slice a n c, .bool all]] w fun e w' => e = .returned (.bool (false)) ∧ Below w.heap.size w w' := by
 have HS := hide hs; have RS := hide hr; clear hs hr
 have hk9 : ∀ k : Int, 1 ≤ k → k ≤ 9 → ¬ kind = k := fun k h1 h2 h3 => by rw [h3, inI_iff.2 ⟨h1, h2⟩] at hk; cases hk
 have n1 := hk9 1 (by decide) (by decide)
 have n2 := hk9 2 (by decide) (by decide)
 have n3 := hk9 3 (by decide) (by decide)
 have n4 := hk9 4 (by decide) (by decide)
 have n5 := hk9 5 (by decide) (by decide)
 have n6 := hk9 6 (by decide) (by decide)
 have n7 := hk9 7 (by decide) (by decide)
 have n8 := hk9 8 (by decide) (by decide)
 have n9 := hk9 9 (by decide) (by decide)
 clear hk9 hk; have HN := hide hn; clear hn; have BB := hide (Below.refl w.heap.size w)
 obtain ⟨wr1, hA⟩ : ∃ X, X = w.alloc (.cells ([.int .i64 kind, .int .i64 num, .int .i64 uid, .int .i64 flags, .int .i64 mod, .slice a n c, .bool all] : List Value).toArray 30) := ⟨_, rfl⟩
 have Ax : HasObj wr1 w.heap.size 30 [.int .i64 kind, .int .i64 num, .int .i64 uid, .int .i64 flags, .int .i64 mod, .slice a n c, .bool all] := by rw [hA]; exact HasObj.new _ _ _
 have hbn : Below w.heap.size w wr1 := by rw [hA]; exact (Below.refl _ _).alloc (Nat.le_refl _) _
 have loA : w.heap.size ≤ w.heap.size := (uh BB).size
 have EA := hA.symm; clear hA; replace RS := hide ((uh RS).up hbn); have sz1 := hide (hbn.size); replace BB := hide (below_y (uh BB) hbn); clear hbn; have A := hide Ax; clear Ax; have Ac0_1 := (uh A).cell 0 rfl; have Ac1_1 := (uh A).cell 1 rfl; have Ac2_1 := (uh A).cell 2 rfl; have Ac3_1 := (uh A).cell 3 rfl; have Ac4_1 := (uh A).cell 4 rfl; have Ac5_1 := (uh A).cell 5 rfl; have Ac6_1 := (uh A).cell 6 rfl
 go_enter Tryd.func24, Tryd.ntmps24
 go_wp2
 go_ret
 exact ⟨rfl, uh BB⟩
set_option maxHeartbeats 4000000 in
set_option maxRecDepth 100000 in
theorem lineRight1 (num uid flags mod : Int) (set : List Rg) (all : Bool) (n : Nat) (a : Option Addr) (c : Nat) (w : World) (hs : set.length ≤ 1048576) (hn : n = set.length) (hr : ReadO w (.slice a n c) set) :
  Calls Tryd.prog 24 #[.agg #[.int .i64 1, .int .i64 num, .int .i64 uid, .int .i64 flags, .int .i64 mod, .slice a n c, .bool all]] w fun e w' => e = .returned (.bool ((inI num 0 30))) ∧ Below w.heap.size w w' := by
 have HS := hide hs; have RS := hide hr; clear hs hr; have HN := hide hn; clear hn; have BB := hide (Below.refl w.heap.size w)
 obtain ⟨wr1, hA⟩ : ∃ X, X = w.alloc (.cells ([.int .i64 1, .int .i64 num, .int .i64 uid, .int .i64 flags, .int .i64 mod, .slice a n c, .bool all] : List Value).toArray 30) := ⟨_, rfl⟩
 have Ax : HasObj wr1 w.heap.size 30 [.int .i64 1, .int .i64 num, .int .i64 uid, .int .i64 flags, .int .i64 mod, .slice a n c, .bool all] := by rw [hA]; exact HasObj.new _ _ _
 have hbn : Below w.heap.size w wr1 := by rw [hA]; exact (Below.refl _ _).alloc (Nat.le_refl _) _
 have loA : w.heap.size ≤ w.heap.size := (uh BB).size
 have EA := hA.symm; clear hA; replace RS := hide ((uh RS).up hbn); have sz1 := hide (hbn.size); replace BB := hide (below_y (uh BB) hbn); clear hbn; have A := hide Ax; clear Ax; have Ac0_1 := (uh A).cell 0 rfl; have Ac1_1 := (uh A).cell 1 rfl; have Ac2_1 := (uh A).cell 2 rfl; have Ac3_1 := (uh A).cell 3 rfl; have Ac4_1 := (uh A).cell 4 rfl; have Ac5_1 := (uh A).cell 5 rfl; have Ac6_1 := (uh A).cell 6 rfl
 go_enter Tryd.func24, Tryd.ntmps24
 go_wp2_with fail; clear Ac0_1 Ac1_1 Ac2_1 Ac3_1 Ac4_1 Ac5_1 Ac6_1 EA
 refine (impl_within_any num 0 30 _).mono ?_
 rintro e wr2 ⟨rfl, hw⟩
 subst wr2
 have Ac0_2 := (uh A).cell 0 rfl; have Ac1_2 := (uh A).cell 1 rfl; have Ac2_2 := (uh A).cell 2 rfl; have Ac3_2 := (uh A).cell 3 rfl; have Ac4_2 := (uh A).cell 4 rfl; have Ac5_2 := (uh A).cell 5 rfl; have Ac6_2 := (uh A).cell 6 rfl
 go_wp2
 go_ret
 exact ⟨rfl, uh BB⟩
set_option maxHeartbeats 4000000 in
set_option maxRecDepth 100000 in
theorem lineRight2 (num uid flags mod : Int) (set : List Rg) (all : Bool) (n : Nat) (a : Option Addr) (c : Nat) (w : World) (hs : set.length ≤ 1048576) (hn : n = set.length) (hr : ReadO w (.slice a n c) set) :
  Calls Tryd.prog 24 #[.agg #[.int .i64 2, .int .i64 num, .int .i64 uid, .int .i64 flags, .int .i64 mod, .slice a n c, .bool all]] w fun e w' => e = .returned (.bool ((inI num 1 30))) ∧ Below w.heap.size w w' := by
 have HS := hide hs; have RS := hide hr; clear hs hr; have HN := hide hn; clear hn; have BB := hide (Below.refl w.heap.size w)
 obtain ⟨wr1, hA⟩ : ∃ X, X = w.alloc (.cells ([.int .i64 2, .int .i64 num, .int .i64 uid, .int .i64 flags, .int .i64 mod, .slice a n c, .bool all] : List Value).toArray 30) := ⟨_, rfl⟩
 have Ax : HasObj wr1 w.heap.size 30 [.int .i64 2, .int .i64 num, .int .i64 uid, .int .i64 flags, .int .i64 mod, .slice a n c, .bool all] := by rw [hA]; exact HasObj.new _ _ _
 have hbn : Below w.heap.size w wr1 := by rw [hA]; exact (Below.refl _ _).alloc (Nat.le_refl _) _
 have loA : w.heap.size ≤ w.heap.size := (uh BB).size
 have EA := hA.symm; clear hA; replace RS := hide ((uh RS).up hbn); have sz1 := hide (hbn.size); replace BB := hide (below_y (uh BB) hbn); clear hbn; have A := hide Ax; clear Ax; have Ac0_1 := (uh A).cell 0 rfl; have Ac1_1 := (uh A).cell 1 rfl; have Ac2_1 := (uh A).cell 2 rfl; have Ac3_1 := (uh A).cell 3 rfl; have Ac4_1 := (uh A).cell 4 rfl; have Ac5_1 := (uh A).cell 5 rfl; have Ac6_1 := (uh A).cell 6 rfl
 go_enter Tryd.func24, Tryd.ntmps24
 go_wp2_with fail; clear Ac0_1 Ac1_1 Ac2_1 Ac3_1 Ac4_1 Ac5_1 Ac6_1 EA
 refine (impl_within_any num 1 30 _).mono ?_
 rintro e wr2 ⟨rfl, hw⟩
 subst wr2
 have Ac0_2 := (uh A).cell 0 rfl; have Ac1_2 := (uh A).cell 1 rfl; have Ac2_2 := (uh A).cell 2 rfl; have Ac3_2 := (uh A).cell 3 rfl; have Ac4_2 := (uh A).cell 4 rfl; have Ac5_2 := (uh A).cell 5 rfl; have Ac6_2 := (uh A).cell 6 rfl
 go_wp2
 go_ret
 exact ⟨rfl, uh BB⟩
set_option maxHeartbeats 4000000 in
set_option maxRecDepth 100000 in
theorem lineRight3 (num uid flags mod : Int) (set : List Rg) (all : Bool) (n : Nat) (a : Option Addr) (c : Nat) (w : World) (hs : set.length ≤ 1048576) (hn : n = set.length) (hr : ReadO w (.slice a n c) set) :
  Calls Tryd.prog 24 #[.agg #[.int .i64 3, .int .i64 num, .int .i64 uid, .int .i64 flags, .int .i64 mod, .slice a n c, .bool all]] w fun e w' => e = .returned (.bool ((inI num 1 30) && (inI uid 1 9999) && (flOk flags) && (inI mod 1 100000))) ∧ Below w.heap.size w w' := by
 have HS := hide hs; have RS := hide hr; clear hs hr; have HN := hide hn; clear hn; have BB := hide (Below.refl w.heap.size w)
 obtain ⟨wr1, hA⟩ : ∃ X, X = w.alloc (.cells ([.int .i64 3, .int .i64 num, .int .i64 uid, .int .i64 flags, .int .i64 mod, .slice a n c, .bool all] : List Value).toArray 30) := ⟨_, rfl⟩
 have Ax : HasObj wr1 w.heap.size 30 [.int .i64 3, .int .i64 num, .int .i64 uid, .int .i64 flags, .int .i64 mod, .slice a n c, .bool all] := by rw [hA]; exact HasObj.new _ _ _
 have hbn : Below w.heap.size w wr1 := by rw [hA]; exact (Below.refl _ _).alloc (Nat.le_refl _) _
 have loA : w.heap.size ≤ w.heap.size := (uh BB).size
 have EA := hA.symm; clear hA; replace RS := hide ((uh RS).up hbn); have sz1 := hide (hbn.size); replace BB := hide (below_y (uh BB) hbn); clear hbn; have A := hide Ax; clear Ax; have Ac0_1 := (uh A).cell 0 rfl; have Ac1_1 := (uh A).cell 1 rfl; have Ac2_1 := (uh A).cell 2 rfl; have Ac3_1 := (uh A).cell 3 rfl; have Ac4_1 := (uh A).cell 4 rfl; have Ac5_1 := (uh A).cell 5 rfl; have Ac6_1 := (uh A).cell 6 rfl
 go_enter Tryd.func24, Tryd.ntmps24
 go_wp2_with fail; clear Ac0_1 Ac1_1 Ac2_1 Ac3_1 Ac4_1 Ac5_1 Ac6_1 EA
 refine (impl_within_any num 1 30 _).mono ?_
 rintro e wr2 ⟨rfl, hw⟩
 subst wr2
 have Ac0_2 := (uh A).cell 0 rfl; have Ac1_2 := (uh A).cell 1 rfl; have Ac2_2 := (uh A).cell 2 rfl; have Ac3_2 := (uh A).cell 3 rfl; have Ac4_2 := (uh A).cell 4 rfl; have Ac5_2 := (uh A).cell 5 rfl; have Ac6_2 := (uh A).cell 6 rfl
 cases h0 : inI num 1 30 with
 | false =>
  go_wp2
  go_ret
  exact ⟨by simp [h0], uh BB⟩
 | true =>
  go_wp2_with fail; clear Ac0_2 Ac1_2 Ac2_2 Ac3_2 Ac4_2 Ac5_2 Ac6_2
  refine (impl_within_any uid 1 9999 _).mono ?_
  rintro e wr3 ⟨rfl, hw⟩
  subst wr3
  have Ac0_3 := (uh A).cell 0 rfl; have Ac1_3 := (uh A).cell 1 rfl; have Ac2_3 := (uh A).cell 2 rfl; have Ac3_3 := (uh A).cell 3 rfl; have Ac4_3 := (uh A).cell 4 rfl; have Ac5_3 := (uh A).cell 5 rfl; have Ac6_3 := (uh A).cell 6 rfl
  cases h1 : inI uid 1 9999 with
  | false =>
   go_wp2
   go_ret
   exact ⟨by simp [h0, h1], uh BB⟩
  | true =>
   go_wp2_with fail; clear Ac0_3 Ac1_3 Ac2_3 Ac3_3 Ac4_3 Ac5_3 Ac6_3
   refine (impl_FlagsOk_any flags _).mono ?_
   rintro e wr4 ⟨rfl, hw⟩
   subst wr4
   have Ac0_4 := (uh A).cell 0 rfl; have Ac1_4 := (uh A).cell 1 rfl; have Ac2_4 := (uh A).cell 2 rfl; have Ac3_4 := (uh A).cell 3 rfl; have Ac4_4 := (uh A).cell 4 rfl; have Ac5_4 := (uh A).cell 5 rfl; have Ac6_4 := (uh A).cell 6 rfl
   cases h2 : flOk flags with
   | false =>
    go_wp2
    go_ret
    exact ⟨by simp [h0, h1, h2], uh BB⟩
   | true =>
    go_wp2_with fail; clear Ac0_4 Ac1_4 Ac2_4 Ac3_4 Ac4_4 Ac5_4 Ac6_4
    refine (impl_within_any mod 1 100000 _).mono ?_
    rintro e wr5 ⟨rfl, hw⟩
    subst wr5
    have Ac0_5 := (uh A).cell 0 rfl; have Ac1_5 := (uh A).cell 1 rfl; have Ac2_5 := (uh A).cell 2 rfl; have Ac3_5 := (uh A).cell 3 rfl; have Ac4_5 := (uh A).cell 4 rfl; have Ac5_5 := (uh A).cell 5 rfl; have Ac6_5 := (uh A).cell 6 rfl
    go_wp2
    go_ret
    exact ⟨by simp [h0, h1, h2], uh BB⟩
set_option maxHeartbeats 4000000 in
set_option maxRecDepth 100000 in
theorem lineRight4 (num uid flags mod : Int) (set : List Rg) (all : Bool) (n : Nat) (a : Option Addr) (c : Nat) (w : World) (hs : set.length ≤ 1048576) (hn : n = set.length) (hr : ReadO w (.slice a n c) set) :
  Calls Tryd.prog 24 #[.agg #[.int .i64 4, .int .i64 num, .int .i64 uid, .int .i64 flags, .int .i64 mod, .slice a n c, .bool all]] w fun e w' => e = .returned (.bool ((okS set) && (!decide (n = 0)))) ∧ Below w.heap.size w w' := by
 have HS := hide hs; have RS := hide hr; clear hs hr; have HN := hide hn; clear hn; have BB := hide (Below.refl w.heap.size w)
 obtain ⟨wr1, hA⟩ : ∃ X, X = w.alloc (.cells ([.int .i64 4, .int .i64 num, .int .i64 uid, .int .i64 flags, .int .i64 mod, .slice a n c, .bool all] : List Value).toArray 30) := ⟨_, rfl⟩
 have Ax : HasObj wr1 w.heap.size 30 [.int .i64 4, .int .i64 num, .int .i64 uid, .int .i64 flags, .int .i64 mod, .slice a n c, .bool all] := by rw [hA]; exact HasObj.new _ _ _
 have hbn : Below w.heap.size w wr1 := by rw [hA]; exact (Below.refl _ _).alloc (Nat.le_refl _) _
 have loA : w.heap.size ≤ w.heap.size := (uh BB).size
 have EA := hA.symm; clear hA; replace RS := hide ((uh RS).up hbn); have sz1 := hide (hbn.size); replace BB := hide (below_y (uh BB) hbn); clear hbn; have A := hide Ax; clear Ax; have Ac0_1 := (uh A).cell 0 rfl; have Ac1_1 := (uh A).cell 1 rfl; have Ac2_1 := (uh A).cell 2 rfl; have Ac3_1 := (uh A).cell 3 rfl; have Ac4_1 := (uh A).cell 4 rfl; have Ac5_1 := (uh A).cell 5 rfl; have Ac6_1 := (uh A).cell 6 rfl
 go_enter Tryd.func24, Tryd.ntmps24
 go_wp2_with fail; clear Ac0_1 Ac1_1 Ac2_1 Ac3_1 Ac4_1 Ac5_1 Ac6_1 EA
 refine (impl_SetOk_any set _ _ (uh HS) (uh RS)).mono ?_
 rintro e wr2 ⟨rfl, hb⟩
 replace A := hide ((uh A).ups hb); replace RS := hide ((uh RS).up hb); have sz2 := hide (hb.size); replace BB := hide (below_y (uh BB) hb); clear hb; have Ac0_2 := (uh A).cell 0 rfl; have Ac1_2 := (uh A).cell 1 rfl; have Ac2_2 := (uh A).cell 2 rfl; have Ac3_2 := (uh A).cell 3 rfl; have Ac4_2 := (uh A).cell 4 rfl; have Ac5_2 := (uh A).cell 5 rfl; have Ac6_2 := (uh A).cell 6 rfl
 cases h1 : okS set with
 | false =>
  go_wp2
  go_ret
  exact ⟨by simp [h1], uh BB⟩
 | true =>
  by_cases h2 : n = 0
  ·subst h2
   go_wp2
   go_ret
   exact ⟨by simp, uh BB⟩
  ·have h3 : 0 < n := by omega
   have h4 : (0 : Int) < (n : Int) := by omega
   go_wp2
   go_ret
   exact ⟨by simp [h1, h2], uh BB⟩
set_option maxHeartbeats 4000000 in
set_option maxRecDepth 100000 in
theorem lineRight5 (num uid flags mod : Int) (set : List Rg) (all : Bool) (n : Nat) (a : Option Addr) (c : Nat) (w : World) (hs : set.length ≤ 1048576) (hn : n = set.length) (hr : ReadO w (.slice a n c) set) :
  Calls Tryd.prog 24 #[.agg #[.int .i64 5, .int .i64 num, .int .i64 uid, .int .i64 flags, .int .i64 mod, .slice a n c, .bool all]] w fun e w' => e = .returned (.bool ((inI num 1 9999) && (inI mod 1 100000))) ∧ Below w.heap.size w w' := by
 have HS := hide hs; have RS := hide hr; clear hs hr; have HN := hide hn; clear hn; have BB := hide (Below.refl w.heap.size w)
 obtain ⟨wr1, hA⟩ : ∃ X, X = w.alloc (.cells ([.int .i64 5, .int .i64 num, .int .i64 uid, .int .i64 flags, .int .i64 mod, .slice a n c, .bool all] : List Value).toArray 30) := ⟨_, rfl⟩
 have Ax : HasObj wr1 w.heap.size 30 [.int .i64 5, .int .i64 num, .int .i64 uid, .int .i64 flags, .int .i64 mod, .slice a n c, .bool all] := by rw [hA]; exact HasObj.new _ _ _
 have hbn : Below w.heap.size w wr1 := by rw [hA]; exact (Below.refl _ _).alloc (Nat.le_refl _) _
 have loA : w.heap.size ≤ w.heap.size := (uh BB).size
 have EA := hA.symm; clear hA; replace RS := hide ((uh RS).up hbn); have sz1 := hide (hbn.size); replace BB := hide (below_y (uh BB) hbn); clear hbn; have A := hide Ax; clear Ax; have Ac0_1 := (uh A).cell 0 rfl; have Ac1_1 := (uh A).cell 1 rfl; have Ac2_1 := (uh A).cell 2 rfl; have Ac3_1 := (uh A).cell 3 rfl; have Ac4_1 := (uh A).cell 4 rfl; have Ac5_1 := (uh A).cell 5 rfl; have Ac6_1 := (uh A).cell 6 rfl
 go_enter Tryd.func24, Tryd.ntmps24
 go_wp2_with fail; clear Ac0_1 Ac1_1 Ac2_1 Ac3_1 Ac4_1 Ac5_1 Ac6_1 EA
 refine (impl_within_any num 1 9999 _).mono ?_
 rintro e wr2 ⟨rfl, hw⟩
 subst wr2
 have Ac0_2 := (uh A).cell 0 rfl; have Ac1_2 := (uh A).cell 1 rfl; have Ac2_2 := (uh A).cell 2 rfl; have Ac3_2 := (uh A).cell 3 rfl; have Ac4_2 := (uh A).cell 4 rfl; have Ac5_2 := (uh A).cell 5 rfl; have Ac6_2 := (uh A).cell 6 rfl
 cases h0 : inI num 1 9999 with
 | false =>
  go_wp2
  go_ret
  exact ⟨by simp [h0], uh BB⟩
 | true =>
  go_wp2_with fail; clear Ac0_2 Ac1_2 Ac2_2 Ac3_2 Ac4_2 Ac5_2 Ac6_2
  refine (impl_within_any mod 1 100000 _).mono ?_
  rintro e wr3 ⟨rfl, hw⟩
  subst wr3
  have Ac0_3 := (uh A).cell 0 rfl; have Ac1_3 := (uh A).cell 1 rfl; have Ac2_3 := (uh A).cell 2 rfl; have Ac3_3 := (uh A).cell 3 rfl; have Ac4_3 := (uh A).cell 4 rfl; have Ac5_3 := (uh A).cell 5 rfl; have Ac6_3 := (uh A).cell 6 rfl
  go_wp2
  go_ret
  exact ⟨by simp [h0], uh BB⟩
set_option maxHeartbeats 4000000 in
set_option maxRecDepth 100000 in
theorem lineRight6 (num uid flags mod : Int) (set : List Rg) (all : Bool) (n : Nat) (a : Option Addr) (c : Nat) (w : World) (hs : set.length ≤ 1048576) (hn : n = set.length) (hr : ReadO w (.slice a n c) set) :
  Calls Tryd.prog 24 #[.agg #[.int .i64 6, .int .i64 num, .int .i64 uid, .int .i64 flags, .int .i64 mod, .slice a n c, .bool all]] w fun e w' => e = .returned (.bool ((okS set))) ∧ Below w.heap.size w w' := by
 have HS := hide hs; have RS := hide hr; clear hs hr; have HN := hide hn; clear hn; have BB := hide (Below.refl w.heap.size w)
 obtain ⟨wr1, hA⟩ : ∃ X, X = w.alloc (.cells ([.int .i64 6, .int .i64 num, .int .i64 uid, .int .i64 flags, .int .i64 mod, .slice a n c, .bool all] : List Value).toArray 30) := ⟨_, rfl⟩
 have Ax : HasObj wr1 w.heap.size 30 [.int .i64 6, .int .i64 num, .int .i64 uid, .int .i64 flags, .int .i64 mod, .slice a n c, .bool all] := by rw [hA]; exact HasObj.new _ _ _
 have hbn : Below w.heap.size w wr1 := by rw [hA]; exact (Below.refl _ _).alloc (Nat.le_refl _) _
 have loA : w.heap.size ≤ w.heap.size := (uh BB).size
 have EA := hA.symm; clear hA; replace RS := hide ((uh RS).up hbn); have sz1 := hide (hbn.size); replace BB := hide (below_y (uh BB) hbn); clear hbn; have A := hide Ax; clear Ax; have Ac0_1 := (uh A).cell 0 rfl; have Ac1_1 := (uh A).cell 1 rfl; have Ac2_1 := (uh A).cell 2 rfl; have Ac3_1 := (uh A).cell 3 rfl; have Ac4_1 := (uh A).cell 4 rfl; have Ac5_1 := (uh A).cell 5 rfl; have Ac6_1 := (uh A).cell 6 rfl
 go_enter Tryd.func24, Tryd.ntmps24
 go_wp2_with fail; clear Ac0_1 Ac1_1 Ac2_1 Ac3_1 Ac4_1 Ac5_1 Ac6_1 EA
 refine (impl_SetOk_any set _ _ (uh HS) (uh RS)).mono ?_
 rintro e wr2 ⟨rfl, hb⟩
 replace A := hide ((uh A).ups hb); replace RS := hide ((uh RS).up hb); have sz2 := hide (hb.size); replace BB := hide (below_y (uh BB) hb); clear hb; have Ac0_2 := (uh A).cell 0 rfl; have Ac1_2 := (uh A).cell 1 rfl; have Ac2_2 := (uh A).cell 2 rfl; have Ac3_2 := (uh A).cell 3 rfl; have Ac4_2 := (uh A).cell 4 rfl; have Ac5_2 := (uh A).cell 5 rfl; have Ac6_2 := (uh A).cell 6 rfl
 go_wp2
 go_ret
 exact ⟨rfl, uh BB⟩
set_option maxHeartbeats 4000000 in
set_option maxRecDepth 100000 in
theorem lineRight7 (num uid flags mod : Int) (set : List Rg) (all : Bool) (n : Nat) (a : Option Addr) (c : Nat) (w : World) (hs : set.length ≤ 1048576) (hn : n = set.length) (hr : ReadO w (.slice a n c) set) :
  Calls Tryd.prog 24 #[.agg #[.int .i64 7, .int .i64 num, .int .i64 uid, .int .i64 flags, .int .i64 mod, .slice a n c, .bool all]] w fun e w' => e = .returned (.bool (true)) ∧ Below w.heap.size w w' := by
 have HS := hide hs; have RS := hide hr; clear hs hr; have HN := hide hn; clear hn; have BB := hide (Below.refl w.heap.size w)
 obtain ⟨wr1, hA⟩ : ∃ X, X = w.alloc (.cells ([.int .i64 7, .int .i64 num, .int .i64 uid, .int .i64 flags, .int .i64 mod, .slice a n c, .bool all] : List Value).toArray 30) := ⟨_, rfl⟩
 have Ax : HasObj wr1 w.heap.size 30 [.int .i64 7, .int .i64 num, .int .i64 uid, .int .i64 flags, .int .i64 mod, .slice a n c, .bool all] := by rw [hA]; exact HasObj.new _ _ _
 have hbn : Below w.heap.size w wr1 := by rw [hA]; exact (Below.refl _ _).alloc (Nat.le_refl _) _
 have loA : w.heap.size ≤ w.heap.size := (uh BB).size
 have EA := hA.symm; clear hA; replace RS := hide ((uh RS).up hbn); have sz1 := hide (hbn.size); replace BB := hide (below_y (uh BB) hbn); clear hbn; have A := hide Ax; clear Ax; have Ac0_1 := (uh A).cell 0 rfl; have Ac1_1 := (uh A).cell 1 rfl; have Ac2_1 := (uh A).cell 2 rfl; have Ac3_1 := (uh A).cell 3 rfl; have Ac4_1 := (uh A).cell 4 rfl; have Ac5_1 := (uh A).cell 5 rfl; have Ac6_1 := (uh A).cell 6 rfl
 go_enter Tryd.func24, Tryd.ntmps24
 go_wp2
 go_ret
 exact ⟨rfl, uh BB⟩
set_option maxHeartbeats 4000000 in
set_option maxRecDepth 100000 in
theorem lineRight8 (num uid flags mod : Int) (set : List Rg) (all : Bool) (n : Nat) (a : Option Addr) (c : Nat) (w : World) (hs : set.length ≤ 1048576) (hn : n = set.length) (hr : ReadO w (.slice a n c) set) :
  Calls Tryd.prog 24 #[.agg #[.int .i64 8, .int .i64 num, .int .i64 uid, .int .i64 flags, .int .i64 mod, .slice a n c, .bool all]] w fun e w' => e = .returned (.bool ((inI num 1 9))) ∧ Below w.heap.size w w' := by
 have HS := hide hs; have RS := hide hr; clear hs hr; have HN := hide hn; clear hn; have BB := hide (Below.refl w.heap.size w)
 obtain ⟨wr1, hA⟩ : ∃ X, X = w.alloc (.cells ([.int .i64 8, .int .i64 num, .int .i64 uid, .int .i64 flags, .int .i64 mod, .slice a n c, .bool all] : List Value).toArray 30) := ⟨_, rfl⟩
 have Ax : HasObj wr1 w.heap.size 30 [.int .i64 8, .int .i64 num, .int .i64 uid, .int .i64 flags, .int .i64 mod, .slice a n c, .bool all] := by rw [hA]; exact HasObj.new _ _ _
 have hbn : Below w.heap.size w wr1 := by rw [hA]; exact (Below.refl _ _).alloc (Nat.le_refl _) _
 have loA : w.heap.size ≤ w.heap.size := (uh BB).size
 have EA := hA.symm; clear hA; replace RS := hide ((uh RS).up hbn); have sz1 := hide (hbn.size); replace BB := hide (below_y (uh BB) hbn); clear hbn; have A := hide Ax; clear Ax; have Ac0_1 := (uh A).cell 0 rfl; have Ac1_1 := (uh A).cell 1 rfl; have Ac2_1 := (uh A).cell 2 rfl; have Ac3_1 := (uh A).cell 3 rfl; have Ac4_1 := (uh A).cell 4 rfl; have Ac5_1 := (uh A).cell 5 rfl; have Ac6_1 := (uh A).cell 6 rfl
 go_enter Tryd.func24, Tryd.ntmps24
 go_wp2_with fail; clear Ac0_1 Ac1_1 Ac2_1 Ac3_1 Ac4_1 Ac5_1 Ac6_1 EA
 refine (impl_within_any num 1 9 _).mono ?_
 rintro e wr2 ⟨rfl, hw⟩
 subst wr2
 have Ac0_2 := (uh A).cell 0 rfl; have Ac1_2 := (uh A).cell 1 rfl; have Ac2_2 := (uh A).cell 2 rfl; have Ac3_2 := (uh A).cell 3 rfl; have Ac4_2 := (uh A).cell 4 rfl; have Ac5_2 := (uh A).cell 5 rfl; have Ac6_2 := (uh A).cell 6 rfl
 go_wp2
 go_ret
 exact ⟨rfl, uh BB⟩
set_option maxHeartbeats 4000000 in
set_option maxRecDepth 100000 in
theorem lineRight9 (num uid flags mod : Int) (set : List Rg) (all : Bool) (n : Nat) (a : Option Addr) (c : Nat) (w : World) (hs : set.length ≤ 1048576) (hn : n = set.length) (hr : ReadO w (.slice a n c) set) :
  Calls Tryd.prog 24 #[.agg #[.int .i64 9, .int .i64 num, .int .i64 uid, .int .i64 flags, .int .i64 mod, .slice a n c, .bool all]] w fun e w' => e = .returned (.bool (true)) ∧ Below w.heap.size w w' := by
 have HS := hide hs; have RS := hide hr; clear hs hr; have HN := hide hn; clear hn; have BB := hide (Below.refl w.heap.size w)
 obtain ⟨wr1, hA⟩ : ∃ X, X = w.alloc (.cells ([.int .i64 9, .int .i64 num, .int .i64 uid, .int .i64 flags, .int .i64 mod, .slice a n c, .bool all] : List Value).toArray 30) := ⟨_, rfl⟩
 have Ax : HasObj wr1 w.heap.size 30 [.int .i64 9, .int .i64 num, .int .i64 uid, .int .i64 flags, .int .i64 mod, .slice a n c, .bool all] := by rw [hA]; exact HasObj.new _ _ _
 have hbn : Below w.heap.size w wr1 := by rw [hA]; exact (Below.refl _ _).alloc (Nat.le_refl _) _
 have loA : w.heap.size ≤ w.heap.size := (uh BB).size
 have EA := hA.symm; clear hA; replace RS := hide ((uh RS).up hbn); have sz1 := hide (hbn.size); replace BB := hide (below_y (uh BB) hbn); clear hbn; have A := hide Ax; clear Ax; have Ac0_1 := (uh A).cell 0 rfl; have Ac1_1 := (uh A).cell 1 rfl; have Ac2_1 := (uh A).cell 2 rfl; have Ac3_1 := (uh A).cell 3 rfl; have Ac4_1 := (uh A).cell 4 rfl; have Ac5_1 := (uh A).cell 5 rfl; have Ac6_1 := (uh A).cell 6 rfl
 go_enter Tryd.func24, Tryd.ntmps24
 go_wp2
 go_ret
 exact ⟨rfl, uh BB⟩
set_option maxHeartbeats 4000000 in
set_option maxRecDepth 100000 in
theorem lineOkI0 (kind : Int) (hk : inI kind 1 9 = false) (num uid flags mod : Int) (set : List Rg) (all : Bool) (n : Nat) (a : Option Addr) (c : Nat) (w : World) (hs : set.length ≤ 1048576) (hn : n = set.length) (hr : ReadO w (.slice a n c) set) :
  Calls Tryd.prog 15 #[.agg #[.int .i64 kind, .int .i64 num, .int .i64 uid, .int .i64 flags, .int .i64 mod, .slice a n c, .bool all]] w fun e w' => e = .returned (.bool (lineOk (⟨kind, num, uid, flags, mod, set, all⟩ : Ln))) ∧ Below w.heap.size w w' := by
 obtain ⟨Z, hZ⟩ : ∃ Z, Z = lineOk (⟨kind, num, uid, flags, mod, set, all⟩ : Ln) := ⟨_, rfl⟩
 rw [← hZ]
 rw [lineOk_no hk] at hZ
 have HZ := hide hZ; have HS := hide hs; have RS := hide hr; have HN := hide hn; clear hs hr hZ hn; have HK := hide hk; clear hk; have BB := hide (Below.refl w.heap.size w)
 obtain ⟨wk1, hA⟩ : ∃ X, X = w.alloc (.cells ([.int .i64 kind, .int .i64 num, .int .i64 uid, .int .i64 flags, .int .i64 mod, .slice a n c, .bool all] : List Value).toArray 30) := ⟨_, rfl⟩
 have Ax : HasObj wk1 w.heap.size 30 [.int .i64 kind, .int .i64 num, .int .i64 uid, .int .i64 flags, .int .i64 mod, .slice a n c, .bool all] := by rw [hA]; exact HasObj.new _ _ _
 have hbn : Below w.heap.size w wk1 := by rw [hA]; exact (Below.refl _ _).alloc (Nat.le_refl _) _
 have loA : w.heap.size ≤ w.heap.size := (uh BB).size
 have EA := hA.symm; clear hA; replace RS := hide ((uh RS).up hbn); have sz1 := hide (hbn.size); replace BB := hide (below_y (uh BB) hbn); clear hbn; have A := hide Ax; clear Ax; have Ac0_1 := (uh A).cell 0 rfl; have Ac1_1 := (uh A).cell 1 rfl; have Ac2_1 := (uh A).cell 2 rfl; have Ac3_1 := (uh A).cell 3 rfl; have Ac4_1 := (uh A).cell 4 rfl; have Ac5_1 := (uh A).cell 5 rfl; have Ac6_1 := (uh A).cell 6 rfl
 go_enter Tryd.func15, Tryd.ntmps15
 go_wp2
 refine wp_region_held_drew (S := fun w' => w'.cell? ⟨w.heap.size, 0, none⟩ = some (.int .i64 kind) ∧ w'.cell? ⟨w.heap.size, 1, none⟩ = some (.int .i64 num) ∧ w'.cell? ⟨w.heap.size, 2, none⟩ = some (.int .i64 uid) ∧ w'.cell? ⟨w.heap.size, 3, none⟩ = some (.int .i64 flags) ∧ w'.cell? ⟨w.heap.size, 4, none⟩ = some (.int .i64 mod) ∧ w'.cell? ⟨w.heap.size, 5, none⟩ = some (.slice a n c) ∧ w'.cell? ⟨w.heap.size, 6, none⟩ = some (.bool all)) (by kernel_rfl) (⟨(uh A).cell 0 rfl, (uh A).cell 1 rfl, (uh A).cell 2 rfl, (uh A).cell 3 rfl, (uh A).cell 4 rfl, (uh A).cell 5 rfl, (uh A).cell 6 rfl⟩) (fun hHeld => ?_)
 clear Ac0_1 Ac1_1 Ac2_1 Ac3_1 Ac4_1 Ac5_1 Ac6_1 EA; replace A := hide ((uh A).drew); replace RS := hide ((uh RS).drew); replace BB := hide ((uh BB).drew)
 have sz2 : Hid (wk1.heap.size ≤ wk1.drew.heap.size) := Nat.le_refl _
 refine tv 0 3 ?_
 refine wpAnyH_ready (rs := [1]) (by kernel_rfl) (by simp) ?_
 refine AllReadyH.cons rfl (fun K hK => ?_) AllReadyH.nil
 go_simp
 refine (lineRight0 kind (uh HK) num uid flags mod set all n a c _ (uh HS) (uh HN) (uh RS)).mono ?_
 rintro e wk2 ⟨rfl, hb⟩
 replace A := hide ((uh A).ups hb); replace RS := hide ((uh RS).up hb); have sz3 := hide (hb.size); replace BB := hide (below_y (uh BB) hb); clear hb; go_wp2_with fail
 refine hK.out _ _ (⟨(uh A).cell 0 rfl, (uh A).cell 1 rfl, (uh A).cell 2 rfl, (uh A).cell 3 rfl, (uh A).cell 4 rfl, (uh A).cell 5 rfl, (uh A).cell 6 rfl⟩) (fun hHeld2 => ?_)
 clear hK K hHeld; have hHeld := hHeld2; clear hHeld2
 try simp only [Act.put, p1, p2, p3]
 refine tv 2 5 ?_; refine tk 3 6 ?_; refine tk 4 7 ?_; refine tk 5 8 ?_; refine tk 6 9 ?_; refine tv 7 10 ?_; refine tv 8 2 ?_
 have hA : Z = false := by exact uh HZ
 clear HZ
 subst hA
 refine wpAnyH_done (by kernel_rfl) ?_ _
 go_wp2
 go_ret
 exact ⟨rfl, uh BB⟩
set_option maxHeartbeats 4000000 in
set_option maxRecDepth 100000 in
theorem lineOkI1 (num uid flags mod : Int) (set : List Rg) (all : Bool) (n : Nat) (a : Option Addr) (c : Nat) (w : World) (hs : set.length ≤ 1048576) (hn : n = set.length) (hr : ReadO w (.slice a n c) set) :
  Calls Tryd.prog 15 #[.agg #[.int .i64 1, .int .i64 num, .int .i64 uid, .int .i64 flags, .int .i64 mod, .slice a n c, .bool all]] w fun e w' => e = .returned (.bool (lineOk (⟨1, num, uid, flags, mod, set, all⟩ : Ln))) ∧ Below w.heap.size w w' := by
 obtain ⟨Z, hZ⟩ : ∃ Z, Z = lineOk (⟨1, num, uid, flags, mod, set, all⟩ : Ln) := ⟨_, rfl⟩
 rw [← hZ]
 rw [lineOk_1 rfl] at hZ
 have HZ := hide hZ; have HS := hide hs; have RS := hide hr; have HN := hide hn; clear hs hr hZ hn; have BB := hide (Below.refl w.heap.size w)
 obtain ⟨wk1, hA⟩ : ∃ X, X = w.alloc (.cells ([.int .i64 1, .int .i64 num, .int .i64 uid, .int .i64 flags, .int .i64 mod, .slice a n c, .bool all] : List Value).toArray 30) := ⟨_, rfl⟩
 have Ax : HasObj wk1 w.heap.size 30 [.int .i64 1, .int .i64 num, .int .i64 uid, .int .i64 flags, .int .i64 mod, .slice a n c, .bool all] := by rw [hA]; exact HasObj.new _ _ _
 have hbn : Below w.heap.size w wk1 := by rw [hA]; exact (Below.refl _ _).alloc (Nat.le_refl _) _
 have loA : w.heap.size ≤ w.heap.size := (uh BB).size
 have EA := hA.symm; clear hA; replace RS := hide ((uh RS).up hbn); have sz1 := hide (hbn.size); replace BB := hide (below_y (uh BB) hbn); clear hbn; have A := hide Ax; clear Ax; have Ac0_1 := (uh A).cell 0 rfl; have Ac1_1 := (uh A).cell 1 rfl; have Ac2_1 := (uh A).cell 2 rfl; have Ac3_1 := (uh A).cell 3 rfl; have Ac4_1 := (uh A).cell 4 rfl; have Ac5_1 := (uh A).cell 5 rfl; have Ac6_1 := (uh A).cell 6 rfl
 go_enter Tryd.func15, Tryd.ntmps15
 go_wp2
 refine wp_region_held_drew (S := fun w' => w'.cell? ⟨w.heap.size, 0, none⟩ = some (.int .i64 1) ∧ w'.cell? ⟨w.heap.size, 1, none⟩ = some (.int .i64 num) ∧ w'.cell? ⟨w.heap.size, 2, none⟩ = some (.int .i64 uid) ∧ w'.cell? ⟨w.heap.size, 3, none⟩ = some (.int .i64 flags) ∧ w'.cell? ⟨w.heap.size, 4, none⟩ = some (.int .i64 mod) ∧ w'.cell? ⟨w.heap.size, 5, none⟩ = some (.slice a n c) ∧ w'.cell? ⟨w.heap.size, 6, none⟩ = some (.bool all)) (by kernel_rfl) (⟨(uh A).cell 0 rfl, (uh A).cell 1 rfl, (uh A).cell 2 rfl, (uh A).cell 3 rfl, (uh A).cell 4 rfl, (uh A).cell 5 rfl, (uh A).cell 6 rfl⟩) (fun hHeld => ?_)
 clear Ac0_1 Ac1_1 Ac2_1 Ac3_1 Ac4_1 Ac5_1 Ac6_1 EA; replace A := hide ((uh A).drew); replace RS := hide ((uh RS).drew); replace BB := hide ((uh BB).drew)
 have sz2 : Hid (wk1.heap.size ≤ wk1.drew.heap.size) := Nat.le_refl _
 refine tv 0 3 ?_
 refine wpAnyH_ready (rs := [1]) (by kernel_rfl) (by simp) ?_
 refine AllReadyH.cons rfl (fun K hK => ?_) AllReadyH.nil
 go_simp
 refine (lineRight1 num uid flags mod set all n a c _ (uh HS) (uh HN) (uh RS)).mono ?_
 rintro e wk2 ⟨rfl, hb⟩
 replace A := hide ((uh A).ups hb); replace RS := hide ((uh RS).up hb); have sz3 := hide (hb.size); replace BB := hide (below_y (uh BB) hb); clear hb; go_wp2_with fail
 refine hK.out _ _ (⟨(uh A).cell 0 rfl, (uh A).cell 1 rfl, (uh A).cell 2 rfl, (uh A).cell 3 rfl, (uh A).cell 4 rfl, (uh A).cell 5 rfl, (uh A).cell 6 rfl⟩) (fun hHeld2 => ?_)
 clear hK K hHeld; have hHeld := hHeld2; clear hHeld2
 try simp only [Act.put, p1, p2, p3]
 cases h1 : ((inI num 0 30)) with
 | false =>
  refine tv 2 5 ?_; refine tk 3 6 ?_; refine tk 4 7 ?_; refine tk 5 8 ?_; refine tk 6 9 ?_; refine tv 7 10 ?_; refine tv 8 2 ?_
  have hA : Z = false := by rw [uh HZ]; have hn_ := uh HN; (try simp only [← hn_]); have h1_ : ((inI num 0 30)) = false := h1; simp only [h1_, Bool.false_and]
  clear HZ
  subst hA
  refine wpAnyH_done (by kernel_rfl) ?_ _
  go_wp2
  go_ret
  exact ⟨rfl, uh BB⟩
 | true =>
  refine tv 2 5 ?_; refine tv 3 6 ?_; refine tv 4 7 ?_
  refine wpAnyH_ready (rs := [5]) (by kernel_rfl) (by simp) ?_
  refine AllReadyH.cons rfl (fun K hK => ?_) AllReadyH.nil
  go_simp
  refine (lineUses1 num uid flags mod all n a c _).mono ?_
  rintro e wk3 ⟨rfl, hb⟩
  replace A := hide ((uh A).ups hb); replace RS := hide ((uh RS).up hb); have sz4 := hide (hb.size); replace BB := hide (below_y (uh BB) hb); clear hb; go_wp2_with fail
  refine hK.out _ _ (⟨(uh A).cell 0 rfl, (uh A).cell 1 rfl, (uh A).cell 2 rfl, (uh A).cell 3 rfl, (uh A).cell 4 rfl, (uh A).cell 5 rfl, (uh A).cell 6 rfl⟩) (fun hHeld2 => ?_)
  clear hK K hHeld; have hHeld := hHeld2; clear hHeld2
  try simp only [Act.put, p1, p2, p3]
  refine wpAnyH_ready (rs := [6]) (by kernel_rfl) (by simp) ?_
  refine AllReadyH.cons rfl (fun K hK => ?_) AllReadyH.nil
  go_simp
  refine (sameLine_any _ _ _ _ _ _ _ _ _ _ _ _ _ _ _ _ _ _ (decide (n = 0)) _ (fun W hb_ => equal_nil_r a c n W (by have := uh HN; have := uh HS; omega))).mono ?_
  rintro e wk4 ⟨rfl, hb⟩
  obtain ⟨Y, hY⟩ : ∃ Y : Bool, Y = (decide ((1 : Int) = 1) && decide (num = (num : Int)) && decide (uid = (0 : Int)) && decide (flags = (0 : Int)) && decide (mod = (0 : Int)) && decide (n = 0) && (all == false)) := ⟨_, rfl⟩
  rw [← hY]
  have HY := hide hY; clear hY; replace A := hide ((uh A).ups hb); replace RS := hide ((uh RS).up hb); have sz5 := hide (hb.size); replace BB := hide (below_y (uh BB) hb); clear hb; go_wp2_with fail
  refine hK.out _ _ (⟨(uh A).cell 0 rfl, (uh A).cell 1 rfl, (uh A).cell 2 rfl, (uh A).cell 3 rfl, (uh A).cell 4 rfl, (uh A).cell 5 rfl, (uh A).cell 6 rfl⟩) (fun hHeld2 => ?_)
  clear hK K hHeld; have hHeld := hHeld2; clear hHeld2
  try simp only [Act.put, p1, p2, p3]
  have hA : Z = Y := by rw [uh HZ, uh HY]; have hn_ := uh HN; (try simp only [← hn_]); have h1_ : ((inI num 0 30)) = true := h1; simp only [h1_, Bool.true_and]; simp
  clear HZ HY
  subst hA
  refine tv 7 10 ?_; refine tv 8 2 ?_
  refine wpAnyH_done (by kernel_rfl) ?_ _
  go_wp2
  go_ret
  exact ⟨rfl, uh BB⟩
set_option maxHeartbeats 4000000 in
set_option maxRecDepth 100000 in
theorem lineOkI2 (num uid flags mod : Int) (set : List Rg) (all : Bool) (n : Nat) (a : Option Addr) (c : Nat) (w : World) (hs : set.length ≤ 1048576) (hn : n = set.length) (hr : ReadO w (.slice a n c) set) :
  Calls Tryd.prog 15 #[.agg #[.int .i64 2, .int .i64 num, .int .i64 uid, .int .i64 flags, .int .i64 mod, .slice a n c, .bool all]] w fun e w' => e = .returned (.bool (lineOk (⟨2, num, uid, flags, mod, set, all⟩ : Ln))) ∧ Below w.heap.size w w' := by
 obtain ⟨Z, hZ⟩ : ∃ Z, Z = lineOk (⟨2, num, uid, flags, mod, set, all⟩ : Ln) := ⟨_, rfl⟩
 rw [← hZ]
 rw [lineOk_2 rfl] at hZ
 have HZ := hide hZ; have HS := hide hs; have RS := hide hr; have HN := hide hn; clear hs hr hZ hn; have BB := hide (Below.refl w.heap.size w)
 obtain ⟨wk1, hA⟩ : ∃ X, X = w.alloc (.cells ([.int .i64 2, .int .i64 num, .int .i64 uid, .int .i64 flags, .int .i64 mod, .slice a n c, .bool all] : List Value).toArray 30) := ⟨_, rfl⟩
 have Ax : HasObj wk1 w.heap.size 30 [.int .i64 2, .int .i64 num, .int .i64 uid, .int .i64 flags, .int .i64 mod, .slice a n c, .bool all] := by rw [hA]; exact HasObj.new _ _ _
 have hbn : Below w.heap.size w wk1 := by rw [hA]; exact (Below.refl _ _).alloc (Nat.le_refl _) _
 have loA : w.heap.size ≤ w.heap.size := (uh BB).size
 have EA := hA.symm; clear hA; replace RS := hide ((uh RS).up hbn); have sz1 := hide (hbn.size); replace BB := hide (below_y (uh BB) hbn); clear hbn; have A := hide Ax; clear Ax; have Ac0_1 := (uh A).cell 0 rfl; have Ac1_1 := (uh A).cell 1 rfl; have Ac2_1 := (uh A).cell 2 rfl; have Ac3_1 := (uh A).cell 3 rfl; have Ac4_1 := (uh A).cell 4 rfl; have Ac5_1 := (uh A).cell 5 rfl; have Ac6_1 := (uh A).cell 6 rfl
 go_enter Tryd.func15, Tryd.ntmps15
 go_wp2
 refine wp_region_held_drew (S := fun w' => w'.cell? ⟨w.heap.size, 0, none⟩ = some (.int .i64 2) ∧ w'.cell? ⟨w.heap.size, 1, none⟩ = some (.int .i64 num) ∧ w'.cell? ⟨w.heap.size, 2, none⟩ = some (.int .i64 uid) ∧ w'.cell? ⟨w.heap.size, 3, none⟩ = some (.int .i64 flags) ∧ w'.cell? ⟨w.heap.size, 4, none⟩ = some (.int .i64 mod) ∧ w'.cell? ⟨w.heap.size, 5, none⟩ = some (.slice a n c) ∧ w'.cell? ⟨w.heap.size, 6, none⟩ = some (.bool all)) (by kernel_rfl) (⟨(uh A).cell 0 rfl, (uh A).cell 1 rfl, (uh A).cell 2 rfl, (uh A).cell 3 rfl, (uh A).cell 4 rfl, (uh A).cell 5 rfl, (uh A).cell 6 rfl⟩) (fun hHeld => ?_)
 clear Ac0_1 Ac1_1 Ac2_1 Ac3_1 Ac4_1 Ac5_1 Ac6_1 EA; replace A := hide ((uh A).drew); replace RS := hide ((uh RS).drew); replace BB := hide ((uh BB).drew)
 have sz2 : Hid (wk1.heap.size ≤ wk1.drew.heap.size) := Nat.le_refl _
 refine tv 0 3 ?_
 refine wpAnyH_ready (rs := [1]) (by kernel_rfl) (by simp) ?_
 refine AllReadyH.cons rfl (fun K hK => ?_) AllReadyH.nil
 go_simp
 refine (lineRight2 num uid flags mod set all n a c _ (uh HS) (uh HN) (uh RS)).mono ?_
 rintro e wk2 ⟨rfl, hb⟩
 replace A := hide ((uh A).ups hb); replace RS := hide ((uh RS).up hb); have sz3 := hide (hb.size); replace BB := hide (below_y (uh BB) hb); clear hb; go_wp2_with fail
 refine hK.out _ _ (⟨(uh A).cell 0 rfl, (uh A).cell 1 rfl, (uh A).cell 2 rfl, (uh A).cell 3 rfl, (uh A).cell 4 rfl, (uh A).cell 5 rfl, (uh A).cell 6 rfl⟩) (fun hHeld2 => ?_)
 clear hK K hHeld; have hHeld := hHeld2; clear hHeld2
 try simp only [Act.put, p1, p2, p3]
 cases h1 : ((inI num 1 30)) with
 | false =>
  refine tv 2 5 ?_; refine tk 3 6 ?_; refine tk 4 7 ?_; refine tk 5 8 ?_; refine tk 6 9 ?_; refine tv 7 10 ?_; refine tv 8 2 ?_
  have hA : Z = false := by rw [uh HZ]; have hn_ := uh HN; (try simp only [← hn_]); have h1_ : ((inI num 1 30)) = false := h1; simp only [h1_, Bool.false_and]
  clear HZ
  subst hA
  refine wpAnyH_done (by kernel_rfl) ?_ _
  go_wp2
  go_ret
  exact ⟨rfl, uh BB⟩
 | true =>
  refine tv 2 5 ?_; refine tv 3 6 ?_; refine tv 4 7 ?_
  refine wpAnyH_ready (rs := [5]) (by kernel_rfl) (by simp) ?_
  refine AllReadyH.cons rfl (fun K hK => ?_) AllReadyH.nil
  go_simp
  refine (lineUses2 num uid flags mod all n a c _).mono ?_
  rintro e wk3 ⟨rfl, hb⟩
  replace A := hide ((uh A).ups hb); replace RS := hide ((uh RS).up hb); have sz4 := hide (hb.size); replace BB := hide (below_y (uh BB) hb); clear hb; go_wp2_with fail
  refine hK.out _ _ (⟨(uh A).cell 0 rfl, (uh A).cell 1 rfl, (uh A).cell 2 rfl, (uh A).cell 3 rfl, (uh A).cell 4 rfl, (uh A).cell 5 rfl, (uh A).cell 6 rfl⟩) (fun hHeld2 => ?_)
  clear hK K hHeld; have hHeld := hHeld2; clear hHeld2
  try simp only [Act.put, p1, p2, p3]
  refine wpAnyH_ready (rs := [6]) (by kernel_rfl) (by simp) ?_
  refine AllReadyH.cons rfl (fun K hK => ?_) AllReadyH.nil
  go_simp
  refine (sameLine_any _ _ _ _ _ _ _ _ _ _ _ _ _ _ _ _ _ _ (decide (n = 0)) _ (fun W hb_ => equal_nil_r a c n W (by have := uh HN; have := uh HS; omega))).mono ?_
  rintro e wk4 ⟨rfl, hb⟩
  obtain ⟨Y, hY⟩ : ∃ Y : Bool, Y = (decide ((2 : Int) = 2) && decide (num = (num : Int)) && decide (uid = (0 : Int)) && decide (flags = (0 : Int)) && decide (mod = (0 : Int)) && decide (n = 0) && (all == false)) := ⟨_, rfl⟩
  rw [← hY]
  have HY := hide hY; clear hY; replace A := hide ((uh A).ups hb); replace RS := hide ((uh RS).up hb); have sz5 := hide (hb.size); replace BB := hide (below_y (uh BB) hb); clear hb; go_wp2_with fail
  refine hK.out _ _ (⟨(uh A).cell 0 rfl, (uh A).cell 1 rfl, (uh A).cell 2 rfl, (uh A).cell 3 rfl, (uh A).cell 4 rfl, (uh A).cell 5 rfl, (uh A).cell 6 rfl⟩) (fun hHeld2 => ?_)
  clear hK K hHeld; have hHeld := hHeld2; clear hHeld2
  try simp only [Act.put, p1, p2, p3]
  have hA : Z = Y := by rw [uh HZ, uh HY]; have hn_ := uh HN; (try simp only [← hn_]); have h1_ : ((inI num 1 30)) = true := h1; simp only [h1_, Bool.true_and]; simp
  clear HZ HY
  subst hA
  refine tv 7 10 ?_; refine tv 8 2 ?_
  refine wpAnyH_done (by kernel_rfl) ?_ _
  go_wp2
  go_ret
  exact ⟨rfl, uh BB⟩
set_option maxHeartbeats 4000000 in
set_option maxRecDepth 100000 in
theorem lineOkI3 (num uid flags mod : Int) (set : List Rg) (all : Bool) (n : Nat) (a : Option Addr) (c : Nat) (w : World) (hs : set.length ≤ 1048576) (hn : n = set.length) (hr : ReadO w (.slice a n c) set) :
  Calls Tryd.prog 15 #[.agg #[.int .i64 3, .int .i64 num, .int .i64 uid, .int .i64 flags, .int .i64 mod, .slice a n c, .bool all]] w fun e w' => e = .returned (.bool (lineOk (⟨3, num, uid, flags, mod, set, all⟩ : Ln))) ∧ Below w.heap.size w w' := by
 obtain ⟨Z, hZ⟩ : ∃ Z, Z = lineOk (⟨3, num, uid, flags, mod, set, all⟩ : Ln) := ⟨_, rfl⟩
 rw [← hZ]
 rw [lineOk_3 rfl] at hZ
 have HZ := hide hZ; have HS := hide hs; have RS := hide hr; have HN := hide hn; clear hs hr hZ hn; have BB := hide (Below.refl w.heap.size w)
 obtain ⟨wk1, hA⟩ : ∃ X, X = w.alloc (.cells ([.int .i64 3, .int .i64 num, .int .i64 uid, .int .i64 flags, .int .i64 mod, .slice a n c, .bool all] : List Value).toArray 30) := ⟨_, rfl⟩
 have Ax : HasObj wk1 w.heap.size 30 [.int .i64 3, .int .i64 num, .int .i64 uid, .int .i64 flags, .int .i64 mod, .slice a n c, .bool all] := by rw [hA]; exact HasObj.new _ _ _
 have hbn : Below w.heap.size w wk1 := by rw [hA]; exact (Below.refl _ _).alloc (Nat.le_refl _) _
 have loA : w.heap.size ≤ w.heap.size := (uh BB).size
 have EA := hA.symm; clear hA; replace RS := hide ((uh RS).up hbn); have sz1 := hide (hbn.size); replace BB := hide (below_y (uh BB) hbn); clear hbn; have A := hide Ax; clear Ax; have Ac0_1 := (uh A).cell 0 rfl; have Ac1_1 := (uh A).cell 1 rfl; have Ac2_1 := (uh A).cell 2 rfl; have Ac3_1 := (uh A).cell 3 rfl; have Ac4_1 := (uh A).cell 4 rfl; have Ac5_1 := (uh A).cell 5 rfl; have Ac6_1 := (uh A).cell 6 rfl
 go_enter Tryd.func15, Tryd.ntmps15
 go_wp2
 refine wp_region_held_drew (S := fun w' => w'.cell? ⟨w.heap.size, 0, none⟩ = some (.int .i64 3) ∧ w'.cell? ⟨w.heap.size, 1, none⟩ = some (.int .i64 num) ∧ w'.cell? ⟨w.heap.size, 2, none⟩ = some (.int .i64 uid) ∧ w'.cell? ⟨w.heap.size, 3, none⟩ = some (.int .i64 flags) ∧ w'.cell? ⟨w.heap.size, 4, none⟩ = some (.int .i64 mod) ∧ w'.cell? ⟨w.heap.size, 5, none⟩ = some (.slice a n c) ∧ w'.cell? ⟨w.heap.size, 6, none⟩ = some (.bool all)) (by kernel_rfl) (⟨(uh A).cell 0 rfl, (uh A).cell 1 rfl, (uh A).cell 2 rfl, (uh A).cell 3 rfl, (uh A).cell 4 rfl, (uh A).cell 5 rfl, (uh A).cell 6 rfl⟩) (fun hHeld => ?_)
 clear Ac0_1 Ac1_1 Ac2_1 Ac3_1 Ac4_1 Ac5_1 Ac6_1 EA; replace A := hide ((uh A).drew); replace RS := hide ((uh RS).drew); replace BB := hide ((uh BB).drew)
 have sz2 : Hid (wk1.heap.size ≤ wk1.drew.heap.size) := Nat.le_refl _
 refine tv 0 3 ?_
 refine wpAnyH_ready (rs := [1]) (by kernel_rfl) (by simp) ?_
 refine AllReadyH.cons rfl (fun K hK => ?_) AllReadyH.nil
 go_simp
 refine (lineRight3 num uid flags mod set all n a c _ (uh HS) (uh HN) (uh RS)).mono ?_
 rintro e wk2 ⟨rfl, hb⟩
 replace A := hide ((uh A).ups hb); replace RS := hide ((uh RS).up hb); have sz3 := hide (hb.size); replace BB := hide (below_y (uh BB) hb); clear hb; go_wp2_with fail
 refine hK.out _ _ (⟨(uh A).cell 0 rfl, (uh A).cell 1 rfl, (uh A).cell 2 rfl, (uh A).cell 3 rfl, (uh A).cell 4 rfl, (uh A).cell 5 rfl, (uh A).cell 6 rfl⟩) (fun hHeld2 => ?_)
 clear hK K hHeld; have hHeld := hHeld2; clear hHeld2
 try simp only [Act.put, p1, p2, p3]
 cases h1 : ((inI num 1 30) && (inI uid 1 9999) && (flOk flags) && (inI mod 1 100000)) with
 | false =>
  refine tv 2 5 ?_; refine tk 3 6 ?_; refine tk 4 7 ?_; refine tk 5 8 ?_; refine tk 6 9 ?_; refine tv 7 10 ?_; refine tv 8 2 ?_
  have hA : Z = false := by rw [uh HZ]; have hn_ := uh HN; (try simp only [← hn_]); have h1_ : ((inI num 1 30) && (inI uid 1 9999) && (flOk flags) && (inI mod 1 100000)) = false := h1; simp only [h1_, Bool.false_and]
  clear HZ
  subst hA
  refine wpAnyH_done (by kernel_rfl) ?_ _
  go_wp2
  go_ret
  exact ⟨rfl, uh BB⟩
 | true =>
  refine tv 2 5 ?_; refine tv 3 6 ?_; refine tv 4 7 ?_
  refine wpAnyH_ready (rs := [5]) (by kernel_rfl) (by simp) ?_
  refine AllReadyH.cons rfl (fun K hK => ?_) AllReadyH.nil
  go_simp
  refine (lineUses3 num uid flags mod all n a c _).mono ?_
  rintro e wk3 ⟨rfl, hb⟩
  replace A := hide ((uh A).ups hb); replace RS := hide ((uh RS).up hb); have sz4 := hide (hb.size); replace BB := hide (below_y (uh BB) hb); clear hb; go_wp2_with fail
  refine hK.out _ _ (⟨(uh A).cell 0 rfl, (uh A).cell 1 rfl, (uh A).cell 2 rfl, (uh A).cell 3 rfl, (uh A).cell 4 rfl, (uh A).cell 5 rfl, (uh A).cell 6 rfl⟩) (fun hHeld2 => ?_)
  clear hK K hHeld; have hHeld := hHeld2; clear hHeld2
  try simp only [Act.put, p1, p2, p3]
  refine wpAnyH_ready (rs := [6]) (by kernel_rfl) (by simp) ?_
  refine AllReadyH.cons rfl (fun K hK => ?_) AllReadyH.nil
  go_simp
  refine (sameLine_any _ _ _ _ _ _ _ _ _ _ _ _ _ _ _ _ _ _ (decide (n = 0)) _ (fun W hb_ => equal_nil_r a c n W (by have := uh HN; have := uh HS; omega))).mono ?_
  rintro e wk4 ⟨rfl, hb⟩
  obtain ⟨Y, hY⟩ : ∃ Y : Bool, Y = (decide ((3 : Int) = 3) && decide (num = (num : Int)) && decide (uid = (uid : Int)) && decide (flags = (flags : Int)) && decide (mod = (mod : Int)) && decide (n = 0) && (all == false)) := ⟨_, rfl⟩
  rw [← hY]
  have HY := hide hY; clear hY; replace A := hide ((uh A).ups hb); replace RS := hide ((uh RS).up hb); have sz5 := hide (hb.size); replace BB := hide (below_y (uh BB) hb); clear hb; go_wp2_with fail
  refine hK.out _ _ (⟨(uh A).cell 0 rfl, (uh A).cell 1 rfl, (uh A).cell 2 rfl, (uh A).cell 3 rfl, (uh A).cell 4 rfl, (uh A).cell 5 rfl, (uh A).cell 6 rfl⟩) (fun hHeld2 => ?_)
  clear hK K hHeld; have hHeld := hHeld2; clear hHeld2
  try simp only [Act.put, p1, p2, p3]
  have hA : Z = Y := by rw [uh HZ, uh HY]; have hn_ := uh HN; (try simp only [← hn_]); have h1_ : ((inI num 1 30) && (inI uid 1 9999) && (flOk flags) && (inI mod 1 100000)) = true := h1; simp only [h1_, Bool.true_and]; simp
  clear HZ HY
  subst hA
  refine tv 7 10 ?_; refine tv 8 2 ?_
  refine wpAnyH_done (by kernel_rfl) ?_ _
  go_wp2
  go_ret
  exact ⟨rfl, uh BB⟩
set_option maxHeartbeats 4000000 in
set_option maxRecDepth 100000 in
theorem lineOkI4 (num uid flags mod : Int) (set : List Rg) (all : Bool) (n : Nat) (a : Option Addr) (c : Nat) (w : World) (hs : set.length ≤ 1048576) (hn : n = set.length) (hr : ReadO w (.slice a n c) set) :
  Calls Tryd.prog 15 #[.agg #[.int .i64 4, .int .i64 num, .int .i64 uid, .int .i64 flags, .int .i64 mod, .slice a n c, .bool all]] w fun e w' => e = .returned (.bool (lineOk (⟨4, num, uid, flags, mod, set, all⟩ : Ln))) ∧ Below w.heap.size w w' := by
 obtain ⟨Z, hZ⟩ : ∃ Z, Z = lineOk (⟨4, num, uid, flags, mod, set, all⟩ : Ln) := ⟨_, rfl⟩
 rw [← hZ]
 rw [lineOk_4 rfl] at hZ
 have HZ := hide hZ; have HS := hide hs; have RS := hide hr; have HN := hide hn; clear hs hr hZ hn; have BB := hide (Below.refl w.heap.size w)
 obtain ⟨wk1, hA⟩ : ∃ X, X = w.alloc (.cells ([.int .i64 4, .int .i64 num, .int .i64 uid, .int .i64 flags, .int .i64 mod, .slice a n c, .bool all] : List Value).toArray 30) := ⟨_, rfl⟩
 have Ax : HasObj wk1 w.heap.size 30 [.int .i64 4, .int .i64 num, .int .i64 uid, .int .i64 flags, .int .i64 mod, .slice a n c, .bool all] := by rw [hA]; exact HasObj.new _ _ _
 have hbn : Below w.heap.size w wk1 := by rw [hA]; exact (Below.refl _ _).alloc (Nat.le_refl _) _
 have loA : w.heap.size ≤ w.heap.size := (uh BB).size
 have EA := hA.symm; clear hA; replace RS := hide ((uh RS).up hbn); have sz1 := hide (hbn.size); replace BB := hide (below_y (uh BB) hbn); clear hbn; have A := hide Ax; clear Ax; have Ac0_1 := (uh A).cell 0 rfl; have Ac1_1 := (uh A).cell 1 rfl; have Ac2_1 := (uh A).cell 2 rfl; have Ac3_1 := (uh A).cell 3 rfl; have Ac4_1 := (uh A).cell 4 rfl; have Ac5_1 := (uh A).cell 5 rfl; have Ac6_1 := (uh A).cell 6 rfl
 go_enter Tryd.func15, Tryd.ntmps15
 go_wp2
 refine wp_region_held_drew (S := fun w' => w'.cell? ⟨w.heap.size, 0, none⟩ = some (.int .i64 4) ∧ w'.cell? ⟨w.heap.size, 1, none⟩ = some (.int .i64 num) ∧ w'.cell? ⟨w.heap.size, 2, none⟩ = some (.int .i64 uid) ∧ w'.cell? ⟨w.heap.size, 3, none⟩ = some (.int .i64 flags) ∧ w'.cell? ⟨w.heap.size, 4, none⟩ = some (.int .i64 mod) ∧ w'.cell? ⟨w.heap.size, 5, none⟩ = some (.slice a n c) ∧ w'.cell? ⟨w.heap.size, 6, none⟩ = some (.bool all)) (by kernel_rfl) (⟨(uh A).cell 0 rfl, (uh A).cell 1 rfl, (uh A).cell 2 rfl, (uh A).cell 3 rfl, (uh A).cell 4 rfl, (uh A).cell 5 rfl, (uh A).cell 6 rfl⟩) (fun hHeld => ?_)
 clear Ac0_1 Ac1_1 Ac2_1 Ac3_1 Ac4_1 Ac5_1 Ac6_1 EA; replace A := hide ((uh A).drew); replace RS := hide ((uh RS).drew); replace BB := hide ((uh BB).drew)
 have sz2 : Hid (wk1.heap.size ≤ wk1.drew.heap.size) := Nat.le_refl _
 refine tv 0 3 ?_
 refine wpAnyH_ready (rs := [1]) (by kernel_rfl) (by simp) ?_
 refine AllReadyH.cons rfl (fun K hK => ?_) AllReadyH.nil
 go_simp
 refine (lineRight4 num uid flags mod set all n a c _ (uh HS) (uh HN) (uh RS)).mono ?_
 rintro e wk2 ⟨rfl, hb⟩
 replace A := hide ((uh A).ups hb); replace RS := hide ((uh RS).up hb); have sz3 := hide (hb.size); replace BB := hide (below_y (uh BB) hb); clear hb; go_wp2_with fail
 refine hK.out _ _ (⟨(uh A).cell 0 rfl, (uh A).cell 1 rfl, (uh A).cell 2 rfl, (uh A).cell 3 rfl, (uh A).cell 4 rfl, (uh A).cell 5 rfl, (uh A).cell 6 rfl⟩) (fun hHeld2 => ?_)
 clear hK K hHeld; have hHeld := hHeld2; clear hHeld2
 try simp only [Act.put, p1, p2, p3]
 cases h1 : ((okS set) && (!decide (n = 0))) with
 | false =>
  refine tv 2 5 ?_; refine tk 3 6 ?_; refine tk 4 7 ?_; refine tk 5 8 ?_; refine tk 6 9 ?_; refine tv 7 10 ?_; refine tv 8 2 ?_
  have hA : Z = false := by rw [uh HZ]; have hn_ := uh HN; (try simp only [← hn_]); have h1_ : ((okS set) && (!decide (n = 0))) = false := h1; simp only [h1_, Bool.false_and]
  clear HZ
  subst hA
  refine wpAnyH_done (by kernel_rfl) ?_ _
  go_wp2
  go_ret
  exact ⟨rfl, uh BB⟩
 | true =>
  refine tv 2 5 ?_; refine tv 3 6 ?_; refine tv 4 7 ?_
  refine wpAnyH_ready (rs := [5]) (by kernel_rfl) (by simp) ?_
  refine AllReadyH.cons rfl (fun K hK => ?_) AllReadyH.nil
  go_simp
  refine (lineUses4 num uid flags mod all n a c _).mono ?_
  rintro e wk3 ⟨rfl, hb⟩
  replace A := hide ((uh A).ups hb); replace RS := hide ((uh RS).up hb); have sz4 := hide (hb.size); replace BB := hide (below_y (uh BB) hb); clear hb; go_wp2_with fail
  refine hK.out _ _ (⟨(uh A).cell 0 rfl, (uh A).cell 1 rfl, (uh A).cell 2 rfl, (uh A).cell 3 rfl, (uh A).cell 4 rfl, (uh A).cell 5 rfl, (uh A).cell 6 rfl⟩) (fun hHeld2 => ?_)
  clear hK K hHeld; have hHeld := hHeld2; clear hHeld2
  try simp only [Act.put, p1, p2, p3]
  refine wpAnyH_ready (rs := [6]) (by kernel_rfl) (by simp) ?_
  refine AllReadyH.cons rfl (fun K hK => ?_) AllReadyH.nil
  go_simp
  refine (sameLine_any _ _ _ _ _ _ _ _ _ _ _ _ _ _ _ _ _ _ (true) _ (fun W hb_ => equal_self_n a c n set W (uh HS) (uh HN) ((uh RS).up hb_))).mono ?_
  rintro e wk4 ⟨rfl, hb⟩
  obtain ⟨Y, hY⟩ : ∃ Y : Bool, Y = (decide ((4 : Int) = 4) && decide (num = (0 : Int)) && decide (uid = (0 : Int)) && decide (flags = (0 : Int)) && decide (mod = (0 : Int)) && true && (all == false)) := ⟨_, rfl⟩
  rw [← hY]
  have HY := hide hY; clear hY; replace A := hide ((uh A).ups hb); replace RS := hide ((uh RS).up hb); have sz5 := hide (hb.size); replace BB := hide (below_y (uh BB) hb); clear hb; go_wp2_with fail
  refine hK.out _ _ (⟨(uh A).cell 0 rfl, (uh A).cell 1 rfl, (uh A).cell 2 rfl, (uh A).cell 3 rfl, (uh A).cell 4 rfl, (uh A).cell 5 rfl, (uh A).cell 6 rfl⟩) (fun hHeld2 => ?_)
  clear hK K hHeld; have hHeld := hHeld2; clear hHeld2
  try simp only [Act.put, p1, p2, p3]
  have hA : Z = Y := by rw [uh HZ, uh HY]; have hn_ := uh HN; (try simp only [← hn_]); have h1_ : ((okS set) && (!decide (n = 0))) = true := h1; simp only [h1_, Bool.true_and]; simp
  clear HZ HY
  subst hA
  refine tv 7 10 ?_; refine tv 8 2 ?_
  refine wpAnyH_done (by kernel_rfl) ?_ _
  go_wp2
  go_ret
  exact ⟨rfl, uh BB⟩
set_option maxHeartbeats 4000000 in
set_option maxRecDepth 100000 in
theorem lineOkI5 (num uid flags mod : Int) (set : List Rg) (all : Bool) (n : Nat) (a : Option Addr) (c : Nat) (w : World) (hs : set.length ≤ 1048576) (hn : n = set.length) (hr : ReadO w (.slice a n c) set) :
  Calls Tryd.prog 15 #[.agg #[.int .i64 5, .int .i64 num, .int .i64 uid, .int .i64 flags, .int .i64 mod, .slice a n c, .bool all]] w fun e w' => e = .returned (.bool (lineOk (⟨5, num, uid, flags, mod, set, all⟩ : Ln))) ∧ Below w.heap.size w w' := by
 obtain ⟨Z, hZ⟩ : ∃ Z, Z = lineOk (⟨5, num, uid, flags, mod, set, all⟩ : Ln) := ⟨_, rfl⟩
 rw [← hZ]
 rw [lineOk_5 rfl] at hZ
 have HZ := hide hZ; have HS := hide hs; have RS := hide hr; have HN := hide hn; clear hs hr hZ hn; have BB := hide (Below.refl w.heap.size w)
 obtain ⟨wk1, hA⟩ : ∃ X, X = w.alloc (.cells ([.int .i64 5, .int .i64 num, .int .i64 uid, .int .i64 flags, .int .i64 mod, .slice a n c, .bool all] : List Value).toArray 30) := ⟨_, rfl⟩
 have Ax : HasObj wk1 w.heap.size 30 [.int .i64 5, .int .i64 num, .int .i64 uid, .int .i64 flags, .int .i64 mod, .slice a n c, .bool all] := by rw [hA]; exact HasObj.new _ _ _
 have hbn : Below w.heap.size w wk1 := by rw [hA]; exact (Below.refl _ _).alloc (Nat.le_refl _) _
 have loA : w.heap.size ≤ w.heap.size := (uh BB).size
 have EA := hA.symm; clear hA; replace RS := hide ((uh RS).up hbn); have sz1 := hide (hbn.size); replace BB := hide (below_y (uh BB) hbn); clear hbn; have A := hide Ax; clear Ax; have Ac0_1 := (uh A).cell 0 rfl; have Ac1_1 := (uh A).cell 1 rfl; have Ac2_1 := (uh A).cell 2 rfl; have Ac3_1 := (uh A).cell 3 rfl; have Ac4_1 := (uh A).cell 4 rfl; have Ac5_1 := (uh A).cell 5 rfl; have Ac6_1 := (uh A).cell 6 rfl
 go_enter Tryd.func15, Tryd.ntmps15
 go_wp2
 refine wp_region_held_drew (S := fun w' => w'.cell? ⟨w.heap.size, 0, none⟩ = some (.int .i64 5) ∧ w'.cell? ⟨w.heap.size, 1, none⟩ = some (.int .i64 num) ∧ w'.cell? ⟨w.heap.size, 2, none⟩ = some (.int .i64 uid) ∧ w'.cell? ⟨w.heap.size, 3, none⟩ = some (.int .i64 flags) ∧ w'.cell? ⟨w.heap.size, 4, none⟩ = some (.int .i64 mod) ∧ w'.cell? ⟨w.heap.size, 5, none⟩ = some (.slice a n c) ∧ w'.cell? ⟨w.heap.size, 6, none⟩ = some (.bool all)) (by kernel_rfl) (⟨(uh A).cell 0 rfl, (uh A).cell 1 rfl, (uh A).cell 2 rfl, (uh A).cell 3 rfl, (uh A).cell 4 rfl, (uh A).cell 5 rfl, (uh A).cell 6 rfl⟩) (fun hHeld => ?_)
 clear Ac0_1 Ac1_1 Ac2_1 Ac3_1 Ac4_1 Ac5_1 Ac6_1 EA; replace A := hide ((uh A).drew); replace RS := hide ((uh RS).drew); replace BB := hide ((uh BB).drew)
 have sz2 : Hid (wk1.heap.size ≤ wk1.drew.heap.size) := Nat.le_refl _
 refine tv 0 3 ?_
 refine wpAnyH_ready (rs := [1]) (by kernel_rfl) (by simp) ?_
 refine AllReadyH.cons rfl (fun K hK => ?_) AllReadyH.nil
 go_simp
 refine (lineRight5 num uid flags mod set all n a c _ (uh HS) (uh HN) (uh RS)).mono ?_
 rintro e wk2 ⟨rfl, hb⟩
 replace A := hide ((uh A).ups hb); replace RS := hide ((uh RS).up hb); have sz3 := hide (hb.size); replace BB := hide (below_y (uh BB) hb); clear hb; go_wp2_with fail
 refine hK.out _ _ (⟨(uh A).cell 0 rfl, (uh A).cell 1 rfl, (uh A).cell 2 rfl, (uh A).cell 3 rfl, (uh A).cell 4 rfl, (uh A).cell 5 rfl, (uh A).cell 6 rfl⟩) (fun hHeld2 => ?_)
 clear hK K hHeld; have hHeld := hHeld2; clear hHeld2
 try simp only [Act.put, p1, p2, p3]
 cases h1 : ((inI num 1 9999) && (inI mod 1 100000)) with
 | false =>
  refine tv 2 5 ?_; refine tk 3 6 ?_; refine tk 4 7 ?_; refine tk 5 8 ?_; refine tk 6 9 ?_; refine tv 7 10 ?_; refine tv 8 2 ?_
  have hA : Z = false := by rw [uh HZ]; have hn_ := uh HN; (try simp only [← hn_]); have h1_ : ((inI num 1 9999) && (inI mod 1 100000)) = false := h1; simp only [h1_, Bool.false_and]
  clear HZ
  subst hA
  refine wpAnyH_done (by kernel_rfl) ?_ _
  go_wp2
  go_ret
  exact ⟨rfl, uh BB⟩
 | true =>
  refine tv 2 5 ?_; refine tv 3 6 ?_; refine tv 4 7 ?_
  refine wpAnyH_ready (rs := [5]) (by kernel_rfl) (by simp) ?_
  refine AllReadyH.cons rfl (fun K hK => ?_) AllReadyH.nil
  go_simp
  refine (lineUses5 num uid flags mod all n a c _).mono ?_
  rintro e wk3 ⟨rfl, hb⟩
  replace A := hide ((uh A).ups hb); replace RS := hide ((uh RS).up hb); have sz4 := hide (hb.size); replace BB := hide (below_y (uh BB) hb); clear hb; go_wp2_with fail
  refine hK.out _ _ (⟨(uh A).cell 0 rfl, (uh A).cell 1 rfl, (uh A).cell 2 rfl, (uh A).cell 3 rfl, (uh A).cell 4 rfl, (uh A).cell 5 rfl, (uh A).cell 6 rfl⟩) (fun hHeld2 => ?_)
  clear hK K hHeld; have hHeld := hHeld2; clear hHeld2
  try simp only [Act.put, p1, p2, p3]
  refine wpAnyH_ready (rs := [6]) (by kernel_rfl) (by simp) ?_
  refine AllReadyH.cons rfl (fun K hK => ?_) AllReadyH.nil
  go_simp
  refine (sameLine_any _ _ _ _ _ _ _ _ _ _ _ _ _ _ _ _ _ _ (decide (n = 0)) _ (fun W hb_ => equal_nil_r a c n W (by have := uh HN; have := uh HS; omega))).mono ?_
  rintro e wk4 ⟨rfl, hb⟩
  obtain ⟨Y, hY⟩ : ∃ Y : Bool, Y = (decide ((5 : Int) = 5) && decide (num = (num : Int)) && decide (uid = (0 : Int)) && decide (flags = (0 : Int)) && decide (mod = (mod : Int)) && decide (n = 0) && (all == all)) := ⟨_, rfl⟩
  rw [← hY]
  have HY := hide hY; clear hY; replace A := hide ((uh A).ups hb); replace RS := hide ((uh RS).up hb); have sz5 := hide (hb.size); replace BB := hide (below_y (uh BB) hb); clear hb; go_wp2_with fail
  refine hK.out _ _ (⟨(uh A).cell 0 rfl, (uh A).cell 1 rfl, (uh A).cell 2 rfl, (uh A).cell 3 rfl, (uh A).cell 4 rfl, (uh A).cell 5 rfl, (uh A).cell 6 rfl⟩) (fun hHeld2 => ?_)
  clear hK K hHeld; have hHeld := hHeld2; clear hHeld2
  try simp only [Act.put, p1, p2, p3]
  have hA : Z = Y := by rw [uh HZ, uh HY]; have hn_ := uh HN; (try simp only [← hn_]); have h1_ : ((inI num 1 9999) && (inI mod 1 100000)) = true := h1; simp only [h1_, Bool.true_and]; simp
  clear HZ HY
  subst hA
  refine tv 7 10 ?_; refine tv 8 2 ?_
  refine wpAnyH_done (by kernel_rfl) ?_ _
  go_wp2
  go_ret
  exact ⟨rfl, uh BB⟩
set_option maxHeartbeats 4000000 in
set_option maxRecDepth 100000 in
theorem lineOkI6 (num uid flags mod : Int) (set : List Rg) (all : Bool) (n : Nat) (a : Option Addr) (c : Nat) (w : World) (hs : set.length ≤ 1048576) (hn : n = set.length) (hr : ReadO w (.slice a n c) set) :
  Calls Tryd.prog 15 #[.agg #[.int .i64 6, .int .i64 num, .int .i64 uid, .int .i64 flags, .int .i64 mod, .slice a n c, .bool all]] w fun e w' => e = .returned (.bool (lineOk (⟨6, num, uid, flags, mod, set, all⟩ : Ln))) ∧ Below w.heap.size w w' := by
 obtain ⟨Z, hZ⟩ : ∃ Z, Z = lineOk (⟨6, num, uid, flags, mod, set, all⟩ : Ln) := ⟨_, rfl⟩
 rw [← hZ]
 rw [lineOk_6 rfl] at hZ
 have HZ := hide hZ; have HS := hide hs; have RS := hide hr; have HN := hide hn; clear hs hr hZ hn; have BB := hide (Below.refl w.heap.size w)
 obtain ⟨wk1, hA⟩ : ∃ X, X = w.alloc (.cells ([.int .i64 6, .int .i64 num, .int .i64 uid, .int .i64 flags, .int .i64 mod, .slice a n c, .bool all] : List Value).toArray 30) := ⟨_, rfl⟩
 have Ax : HasObj wk1 w.heap.size 30 [.int .i64 6, .int .i64 num, .int .i64 uid, .int .i64 flags, .int .i64 mod, .slice a n c, .bool all] := by rw [hA]; exact HasObj.new _ _ _
 have hbn : Below w.heap.size w wk1 := by rw [hA]; exact (Below.refl _ _).alloc (Nat.le_refl _) _
 have loA : w.heap.size ≤ w.heap.size := (uh BB).size
 have EA := hA.symm; clear hA; replace RS := hide ((uh RS).up hbn); have sz1 := hide (hbn.size); replace BB := hide (below_y (uh BB) hbn); clear hbn; have A := hide Ax; clear Ax; have Ac0_1 := (uh A).cell 0 rfl; have Ac1_1 := (uh A).cell 1 rfl; have Ac2_1 := (uh A).cell 2 rfl; have Ac3_1 := (uh A).cell 3 rfl; have Ac4_1 := (uh A).cell 4 rfl; have Ac5_1 := (uh A).cell 5 rfl; have Ac6_1 := (uh A).cell 6 rfl
 go_enter Tryd.func15, Tryd.ntmps15
 go_wp2
 refine wp_region_held_drew (S := fun w' => w'.cell? ⟨w.heap.size, 0, none⟩ = some (.int .i64 6) ∧ w'.cell? ⟨w.heap.size, 1, none⟩ = some (.int .i64 num) ∧ w'.cell? ⟨w.heap.size, 2, none⟩ = some (.int .i64 uid) ∧ w'.cell? ⟨w.heap.size, 3, none⟩ = some (.int .i64 flags) ∧ w'.cell? ⟨w.heap.size, 4, none⟩ = some (.int .i64 mod) ∧ w'.cell? ⟨w.heap.size, 5, none⟩ = some (.slice a n c) ∧ w'.cell? ⟨w.heap.size, 6, none⟩ = some (.bool all)) (by kernel_rfl) (⟨(uh A).cell 0 rfl, (uh A).cell 1 rfl, (uh A).cell 2 rfl, (uh A).cell 3 rfl, (uh A).cell 4 rfl, (uh A).cell 5 rfl, (uh A).cell 6 rfl⟩) (fun hHeld => ?_)
 clear Ac0_1 Ac1_1 Ac2_1 Ac3_1 Ac4_1 Ac5_1 Ac6_1 EA; replace A := hide ((uh A).drew); replace RS := hide ((uh RS).drew); replace BB := hide ((uh BB).drew)
 have sz2 : Hid (wk1.heap.size ≤ wk1.drew.heap.size) := Nat.le_refl _
 refine tv 0 3 ?_
 refine wpAnyH_ready (rs := [1]) (by kernel_rfl) (by simp) ?_
 refine AllReadyH.cons rfl (fun K hK => ?_) AllReadyH.nil
 go_simp
 refine (lineRight6 num uid flags mod set all n a c _ (uh HS) (uh HN) (uh RS)).mono ?_
 rintro e wk2 ⟨rfl, hb⟩
 replace A := hide ((uh A).ups hb); replace RS := hide ((uh RS).up hb); have sz3 := hide (hb.size); replace BB := hide (below_y (uh BB) hb); clear hb; go_wp2_with fail
 refine hK.out _ _ (⟨(uh A).cell 0 rfl, (uh A).cell 1 rfl, (uh A).cell 2 rfl, (uh A).cell 3 rfl, (uh A).cell 4 rfl, (uh A).cell 5 rfl, (uh A).cell 6 rfl⟩) (fun hHeld2 => ?_)
 clear hK K hHeld; have hHeld := hHeld2; clear hHeld2
 try simp only [Act.put, p1, p2, p3]
 cases h1 : ((okS set)) with
 | false =>
  refine tv 2 5 ?_; refine tk 3 6 ?_; refine tk 4 7 ?_; refine tk 5 8 ?_; refine tk 6 9 ?_; refine tv 7 10 ?_; refine tv 8 2 ?_
  have hA : Z = false := by rw [uh HZ]; have hn_ := uh HN; (try simp only [← hn_]); have h1_ : ((okS set)) = false := h1; simp only [h1_, Bool.false_and]
  clear HZ
  subst hA
  refine wpAnyH_done (by kernel_rfl) ?_ _
  go_wp2
  go_ret
  exact ⟨rfl, uh BB⟩
 | true =>
  refine tv 2 5 ?_; refine tv 3 6 ?_; refine tv 4 7 ?_
  refine wpAnyH_ready (rs := [5]) (by kernel_rfl) (by simp) ?_
  refine AllReadyH.cons rfl (fun K hK => ?_) AllReadyH.nil
  go_simp
  refine (lineUses6 num uid flags mod all n a c _).mono ?_
  rintro e wk3 ⟨rfl, hb⟩
  replace A := hide ((uh A).ups hb); replace RS := hide ((uh RS).up hb); have sz4 := hide (hb.size); replace BB := hide (below_y (uh BB) hb); clear hb; go_wp2_with fail
  refine hK.out _ _ (⟨(uh A).cell 0 rfl, (uh A).cell 1 rfl, (uh A).cell 2 rfl, (uh A).cell 3 rfl, (uh A).cell 4 rfl, (uh A).cell 5 rfl, (uh A).cell 6 rfl⟩) (fun hHeld2 => ?_)
  clear hK K hHeld; have hHeld := hHeld2; clear hHeld2
  try simp only [Act.put, p1, p2, p3]
  refine wpAnyH_ready (rs := [6]) (by kernel_rfl) (by simp) ?_
  refine AllReadyH.cons rfl (fun K hK => ?_) AllReadyH.nil
  go_simp
  refine (sameLine_any _ _ _ _ _ _ _ _ _ _ _ _ _ _ _ _ _ _ (true) _ (fun W hb_ => equal_self_n a c n set W (uh HS) (uh HN) ((uh RS).up hb_))).mono ?_
  rintro e wk4 ⟨rfl, hb⟩
  obtain ⟨Y, hY⟩ : ∃ Y : Bool, Y = (decide ((6 : Int) = 6) && decide (num = (0 : Int)) && decide (uid = (0 : Int)) && decide (flags = (0 : Int)) && decide (mod = (0 : Int)) && true && (all == false)) := ⟨_, rfl⟩
  rw [← hY]
  have HY := hide hY; clear hY; replace A := hide ((uh A).ups hb); replace RS := hide ((uh RS).up hb); have sz5 := hide (hb.size); replace BB := hide (below_y (uh BB) hb); clear hb; go_wp2_with fail
  refine hK.out _ _ (⟨(uh A).cell 0 rfl, (uh A).cell 1 rfl, (uh A).cell 2 rfl, (uh A).cell 3 rfl, (uh A).cell 4 rfl, (uh A).cell 5 rfl, (uh A).cell 6 rfl⟩) (fun hHeld2 => ?_)
  clear hK K hHeld; have hHeld := hHeld2; clear hHeld2
  try simp only [Act.put, p1, p2, p3]
  have hA : Z = Y := by rw [uh HZ, uh HY]; have hn_ := uh HN; (try simp only [← hn_]); have h1_ : ((okS set)) = true := h1; simp only [h1_, Bool.true_and]; simp
  clear HZ HY
  subst hA
  refine tv 7 10 ?_; refine tv 8 2 ?_
  refine wpAnyH_done (by kernel_rfl) ?_ _
  go_wp2
  go_ret
  exact ⟨rfl, uh BB⟩
set_option maxHeartbeats 4000000 in
set_option maxRecDepth 100000 in
theorem lineOkI7 (num uid flags mod : Int) (set : List Rg) (all : Bool) (n : Nat) (a : Option Addr) (c : Nat) (w : World) (hs : set.length ≤ 1048576) (hn : n = set.length) (hr : ReadO w (.slice a n c) set) :
  Calls Tryd.prog 15 #[.agg #[.int .i64 7, .int .i64 num, .int .i64 uid, .int .i64 flags, .int .i64 mod, .slice a n c, .bool all]] w fun e w' => e = .returned (.bool (lineOk (⟨7, num, uid, flags, mod, set, all⟩ : Ln))) ∧ Below w.heap.size w w' := by
 obtain ⟨Z, hZ⟩ : ∃ Z, Z = lineOk (⟨7, num, uid, flags, mod, set, all⟩ : Ln) := ⟨_, rfl⟩
 rw [← hZ]
 rw [lineOk_7 rfl] at hZ
 have HZ := hide hZ; have HS := hide hs; have RS := hide hr; have HN := hide hn; clear hs hr hZ hn; have BB := hide (Below.refl w.heap.size w)
 obtain ⟨wk1, hA⟩ : ∃ X, X = w.alloc (.cells ([.int .i64 7, .int .i64 num, .int .i64 uid, .int .i64 flags, .int .i64 mod, .slice a n c, .bool all] : List Value).toArray 30) := ⟨_, rfl⟩
 have Ax : HasObj wk1 w.heap.size 30 [.int .i64 7, .int .i64 num, .int .i64 uid, .int .i64 flags, .int .i64 mod, .slice a n c, .bool all] := by rw [hA]; exact HasObj.new _ _ _
 have hbn : Below w.heap.size w wk1 := by rw [hA]; exact (Below.refl _ _).alloc (Nat.le_refl _) _
 have loA : w.heap.size ≤ w.heap.size := (uh BB).size
 have EA := hA.symm; clear hA; replace RS := hide ((uh RS).up hbn); have sz1 := hide (hbn.size); replace BB := hide (below_y (uh BB) hbn); clear hbn; have A := hide Ax; clear Ax; have Ac0_1 := (uh A).cell 0 rfl; have Ac1_1 := (uh A).cell 1 rfl; have Ac2_1 := (uh A).cell 2 rfl; have Ac3_1 := (uh A).cell 3 rfl; have Ac4_1 := (uh A).cell 4 rfl; have Ac5_1 := (uh A).cell 5 rfl; have Ac6_1 := (uh A).cell 6 rfl
 go_enter Tryd.func15, Tryd.ntmps15
 go_wp2
 refine wp_region_held_drew (S := fun w' => w'.cell? ⟨w.heap.size, 0, none⟩ = some (.int .i64 7) ∧ w'.cell? ⟨w.heap.size, 1, none⟩ = some (.int .i64 num) ∧ w'.cell? ⟨w.heap.size, 2, none⟩ = some (.int .i64 uid) ∧ w'.cell? ⟨w.heap.size, 3, none⟩ = some (.int .i64 flags) ∧ w'.cell? ⟨w.heap.size, 4, none⟩ = some (.int .i64 mod) ∧ w'.cell? ⟨w.heap.size, 5, none⟩ = some (.slice a n c) ∧ w'.cell? ⟨w.heap.size, 6, none⟩ = some (.bool all)) (by kernel_rfl) (⟨(uh A).cell 0 rfl, (uh A).cell 1 rfl, (uh A).cell 2 rfl, (uh A).cell 3 rfl, (uh A).cell 4 rfl, (uh A).cell 5 rfl, (uh A).cell 6 rfl⟩) (fun hHeld => ?_)
 clear Ac0_1 Ac1_1 Ac2_1 Ac3_1 Ac4_1 Ac5_1 Ac6_1 EA; replace A := hide ((uh A).drew); replace RS := hide ((uh RS).drew); replace BB := hide ((uh BB).drew)
 have sz2 : Hid (wk1.heap.size ≤ wk1.drew.heap.size) := Nat.le_refl _
 refine tv 0 3 ?_
 refine wpAnyH_ready (rs := [1]) (by kernel_rfl) (by simp) ?_
 refine AllReadyH.cons rfl (fun K hK => ?_) AllReadyH.nil
 go_simp
 refine (lineRight7 num uid flags mod set all n a c _ (uh HS) (uh HN) (uh RS)).mono ?_
 rintro e wk2 ⟨rfl, hb⟩
 replace A := hide ((uh A).ups hb); replace RS := hide ((uh RS).up hb); have sz3 := hide (hb.size); replace BB := hide (below_y (uh BB) hb); clear hb; go_wp2_with fail
 refine hK.out _ _ (⟨(uh A).cell 0 rfl, (uh A).cell 1 rfl, (uh A).cell 2 rfl, (uh A).cell 3 rfl, (uh A).cell 4 rfl, (uh A).cell 5 rfl, (uh A).cell 6 rfl⟩) (fun hHeld2 => ?_)
 clear hK K hHeld; have hHeld := hHeld2; clear hHeld2
 try simp only [Act.put, p1, p2, p3]
 refine tv 2 5 ?_; refine tv 3 6 ?_; refine tv 4 7 ?_
 refine wpAnyH_ready (rs := [5]) (by kernel_rfl) (by simp) ?_
 refine AllReadyH.cons rfl (fun K hK => ?_) AllReadyH.nil
 go_simp
 refine (lineUses7 num uid flags mod all n a c _).mono ?_
 rintro e wk3 ⟨rfl, hb⟩
 replace A := hide ((uh A).ups hb); replace RS := hide ((uh RS).up hb); have sz4 := hide (hb.size); replace BB := hide (below_y (uh BB) hb); clear hb; go_wp2_with fail
 refine hK.out _ _ (⟨(uh A).cell 0 rfl, (uh A).cell 1 rfl, (uh A).cell 2 rfl, (uh A).cell 3 rfl, (uh A).cell 4 rfl, (uh A).cell 5 rfl, (uh A).cell 6 rfl⟩) (fun hHeld2 => ?_)
 clear hK K hHeld; have hHeld := hHeld2; clear hHeld2
 try simp only [Act.put, p1, p2, p3]
 refine wpAnyH_ready (rs := [6]) (by kernel_rfl) (by simp) ?_
 refine AllReadyH.cons rfl (fun K hK => ?_) AllReadyH.nil
 go_simp
 refine (sameLine_any _ _ _ _ _ _ _ _ _ _ _ _ _ _ _ _ _ _ (decide (n = 0)) _ (fun W hb_ => equal_nil_r a c n W (by have := uh HN; have := uh HS; omega))).mono ?_
 rintro e wk4 ⟨rfl, hb⟩
 obtain ⟨Y, hY⟩ : ∃ Y : Bool, Y = (decide ((7 : Int) = 7) && decide (num = (0 : Int)) && decide (uid = (0 : Int)) && decide (flags = (0 : Int)) && decide (mod = (0 : Int)) && decide (n = 0) && (all == false)) := ⟨_, rfl⟩
 rw [← hY]
 have HY := hide hY; clear hY; replace A := hide ((uh A).ups hb); replace RS := hide ((uh RS).up hb); have sz5 := hide (hb.size); replace BB := hide (below_y (uh BB) hb); clear hb; go_wp2_with fail
 refine hK.out _ _ (⟨(uh A).cell 0 rfl, (uh A).cell 1 rfl, (uh A).cell 2 rfl, (uh A).cell 3 rfl, (uh A).cell 4 rfl, (uh A).cell 5 rfl, (uh A).cell 6 rfl⟩) (fun hHeld2 => ?_)
 clear hK K hHeld; have hHeld := hHeld2; clear hHeld2
 try simp only [Act.put, p1, p2, p3]
 have hA : Z = Y := by rw [uh HZ, uh HY]; have hn_ := uh HN; (try simp only [← hn_]); simp
 clear HZ HY
 subst hA
 refine tv 7 10 ?_; refine tv 8 2 ?_
 refine wpAnyH_done (by kernel_rfl) ?_ _
 go_wp2
 go_ret
 exact ⟨rfl, uh BB⟩
set_option maxHeartbeats 4000000 in
set_option maxRecDepth 100000 in
theorem lineOkI8 (num uid flags mod : Int) (set : List Rg) (all : Bool) (n : Nat) (a : Option Addr) (c : Nat) (w : World) (hs : set.length ≤ 1048576) (hn : n = set.length) (hr : ReadO w (.slice a n c) set) :
  Calls Tryd.prog 15 #[.agg #[.int .i64 8, .int .i64 num, .int .i64 uid, .int .i64 flags, .int .i64 mod, .slice a n c, .bool all]] w fun e w' => e = .returned (.bool (lineOk (⟨8, num, uid, flags, mod, set, all⟩ : Ln))) ∧ Below w.heap.size w w' := by
 obtain ⟨Z, hZ⟩ : ∃ Z, Z = lineOk (⟨8, num, uid, flags, mod, set, all⟩ : Ln) := ⟨_, rfl⟩
 rw [← hZ]
 rw [lineOk_8 rfl] at hZ
 have HZ := hide hZ; have HS := hide hs; have RS := hide hr; have HN := hide hn; clear hs hr hZ hn; have BB := hide (Below.refl w.heap.size w)
 obtain ⟨wk1, hA⟩ : ∃ X, X = w.alloc (.cells ([.int .i64 8, .int .i64 num, .int .i64 uid, .int .i64 flags, .int .i64 mod, .slice a n c, .bool all] : List Value).toArray 30) := ⟨_, rfl⟩
 have Ax : HasObj wk1 w.heap.size 30 [.int .i64 8, .int .i64 num, .int .i64 uid, .int .i64 flags, .int .i64 mod, .slice a n c, .bool all] := by rw [hA]; exact HasObj.new _ _ _
 have hbn : Below w.heap.size w wk1 := by rw [hA]; exact (Below.refl _ _).alloc (Nat.le_refl _) _
 have loA : w.heap.size ≤ w.heap.size := (uh BB).size
 have EA := hA.symm; clear hA; replace RS := hide ((uh RS).up hbn); have sz1 := hide (hbn.size); replace BB := hide (below_y (uh BB) hbn); clear hbn; have A := hide Ax; clear Ax; have Ac0_1 := (uh A).cell 0 rfl; have Ac1_1 := (uh A).cell 1 rfl; have Ac2_1 := (uh A).cell 2 rfl; have Ac3_1 := (uh A).cell 3 rfl; have Ac4_1 := (uh A).cell 4 rfl; have Ac5_1 := (uh A).cell 5 rfl; have Ac6_1 := (uh A).cell 6 rfl
 go_enter Tryd.func15, Tryd.ntmps15
 go_wp2
 refine wp_region_held_drew (S := fun w' => w'.cell? ⟨w.heap.size, 0, none⟩ = some (.int .i64 8) ∧ w'.cell? ⟨w.heap.size, 1, none⟩ = some (.int .i64 num) ∧ w'.cell? ⟨w.heap.size, 2, none⟩ = some (.int .i64 uid) ∧ w'.cell? ⟨w.heap.size, 3, none⟩ = some (.int .i64 flags) ∧ w'.cell? ⟨w.heap.size, 4, none⟩ = some (.int .i64 mod) ∧ w'.cell? ⟨w.heap.size, 5, none⟩ = some (.slice a n c) ∧ w'.cell? ⟨w.heap.size, 6, none⟩ = some (.bool all)) (by kernel_rfl) (⟨(uh A).cell 0 rfl, (uh A).cell 1 rfl, (uh A).cell 2 rfl, (uh A).cell 3 rfl, (uh A).cell 4 rfl, (uh A).cell 5 rfl, (uh A).cell 6 rfl⟩) (fun hHeld => ?_)
 clear Ac0_1 Ac1_1 Ac2_1 Ac3_1 Ac4_1 Ac5_1 Ac6_1 EA; replace A := hide ((uh A).drew); replace RS := hide ((uh RS).drew); replace BB := hide ((uh BB).drew)
 have sz2 : Hid (wk1.heap.size ≤ wk1.drew.heap.size) := Nat.le_refl _
 refine tv 0 3 ?_
 refine wpAnyH_ready (rs := [1]) (by kernel_rfl) (by simp) ?_
 refine AllReadyH.cons rfl (fun K hK => ?_) AllReadyH.nil
 go_simp
 refine (lineRight8 num uid flags mod set all n a c _ (uh HS) (uh HN) (uh RS)).mono ?_
 rintro e wk2 ⟨rfl, hb⟩
 replace A := hide ((uh A).ups hb); replace RS := hide ((uh RS).up hb); have sz3 := hide (hb.size); replace BB := hide (below_y (uh BB) hb); clear hb; go_wp2_with fail
 refine hK.out _ _ (⟨(uh A).cell 0 rfl, (uh A).cell 1 rfl, (uh A).cell 2 rfl, (uh A).cell 3 rfl, (uh A).cell 4 rfl, (uh A).cell 5 rfl, (uh A).cell 6 rfl⟩) (fun hHeld2 => ?_)
 clear hK K hHeld; have hHeld := hHeld2; clear hHeld2
 try simp only [Act.put, p1, p2, p3]
 cases h1 : ((inI num 1 9)) with
 | false =>
  refine tv 2 5 ?_; refine tk 3 6 ?_; refine tk 4 7 ?_; refine tk 5 8 ?_; refine tk 6 9 ?_; refine tv 7 10 ?_; refine tv 8 2 ?_
  have hA : Z = false := by rw [uh HZ]; have hn_ := uh HN; (try simp only [← hn_]); have h1_ : ((inI num 1 9)) = false := h1; simp only [h1_, Bool.false_and]
  clear HZ
  subst hA
  refine wpAnyH_done (by kernel_rfl) ?_ _
  go_wp2
  go_ret
  exact ⟨rfl, uh BB⟩
 | true =>
  refine tv 2 5 ?_; refine tv 3 6 ?_; refine tv 4 7 ?_
  refine wpAnyH_ready (rs := [5]) (by kernel_rfl) (by simp) ?_
  refine AllReadyH.cons rfl (fun K hK => ?_) AllReadyH.nil
  go_simp
  refine (lineUses8 num uid flags mod all n a c _).mono ?_
  rintro e wk3 ⟨rfl, hb⟩
  replace A := hide ((uh A).ups hb); replace RS := hide ((uh RS).up hb); have sz4 := hide (hb.size); replace BB := hide (below_y (uh BB) hb); clear hb; go_wp2_with fail
  refine hK.out _ _ (⟨(uh A).cell 0 rfl, (uh A).cell 1 rfl, (uh A).cell 2 rfl, (uh A).cell 3 rfl, (uh A).cell 4 rfl, (uh A).cell 5 rfl, (uh A).cell 6 rfl⟩) (fun hHeld2 => ?_)
  clear hK K hHeld; have hHeld := hHeld2; clear hHeld2
  try simp only [Act.put, p1, p2, p3]
  refine wpAnyH_ready (rs := [6]) (by kernel_rfl) (by simp) ?_
  refine AllReadyH.cons rfl (fun K hK => ?_) AllReadyH.nil
  go_simp
  refine (sameLine_any _ _ _ _ _ _ _ _ _ _ _ _ _ _ _ _ _ _ (decide (n = 0)) _ (fun W hb_ => equal_nil_r a c n W (by have := uh HN; have := uh HS; omega))).mono ?_
  rintro e wk4 ⟨rfl, hb⟩
  obtain ⟨Y, hY⟩ : ∃ Y : Bool, Y = (decide ((8 : Int) = 8) && decide (num = (num : Int)) && decide (uid = (0 : Int)) && decide (flags = (0 : Int)) && decide (mod = (0 : Int)) && decide (n = 0) && (all == false)) := ⟨_, rfl⟩
  rw [← hY]
  have HY := hide hY; clear hY; replace A := hide ((uh A).ups hb); replace RS := hide ((uh RS).up hb); have sz5 := hide (hb.size); replace BB := hide (below_y (uh BB) hb); clear hb; go_wp2_with fail
  refine hK.out _ _ (⟨(uh A).cell 0 rfl, (uh A).cell 1 rfl, (uh A).cell 2 rfl, (uh A).cell 3 rfl, (uh A).cell 4 rfl, (uh A).cell 5 rfl, (uh A).cell 6 rfl⟩) (fun hHeld2 => ?_)
  clear hK K hHeld; have hHeld := hHeld2; clear hHeld2
  try simp only [Act.put, p1, p2, p3]
  have hA : Z = Y := by rw [uh HZ, uh HY]; have hn_ := uh HN; (try simp only [← hn_]); have h1_ : ((inI num 1 9)) = true := h1; simp only [h1_, Bool.true_and]; simp
  clear HZ HY
  subst hA
  refine tv 7 10 ?_; refine tv 8 2 ?_
  refine wpAnyH_done (by kernel_rfl) ?_ _
  go_wp2
  go_ret
  exact ⟨rfl, uh BB⟩
set_option maxHeartbeats 4000000 in
set_option maxRecDepth 100000 in
theorem lineOkI9 (num uid flags mod : Int) (set : List Rg) (all : Bool) (n : Nat) (a : Option Addr) (c : Nat) (w : World) (hs : set.length ≤ 1048576) (hn : n = set.length) (hr : ReadO w (.slice a n c) set) :
  Calls Tryd.prog 15 #[.agg #[.int .i64 9, .int .i64 num, .int .i64 uid, .int .i64 flags, .int .i64 mod, .slice a n c, .bool all]] w fun e w' => e = .returned (.bool (lineOk (⟨9, num, uid, flags, mod, set, all⟩ : Ln))) ∧ Below w.heap.size w w' := by
 obtain ⟨Z, hZ⟩ : ∃ Z, Z = lineOk (⟨9, num, uid, flags, mod, set, all⟩ : Ln) := ⟨_, rfl⟩
 rw [← hZ]
 rw [lineOk_9 rfl] at hZ
 have HZ := hide hZ; have HS := hide hs; have RS := hide hr; have HN := hide hn; clear hs hr hZ hn; have BB := hide (Below.refl w.heap.size w)
 obtain ⟨wk1, hA⟩ : ∃ X, X = w.alloc (.cells ([.int .i64 9, .int .i64 num, .int .i64 uid, .int .i64 flags, .int .i64 mod, .slice a n c, .bool all] : List Value).toArray 30) := ⟨_, rfl⟩
 have Ax : HasObj wk1 w.heap.size 30 [.int .i64 9, .int .i64 num, .int .i64 uid, .int .i64 flags, .int .i64 mod, .slice a n c, .bool all] := by rw [hA]; exact HasObj.new _ _ _
 have hbn : Below w.heap.size w wk1 := by rw [hA]; exact (Below.refl _ _).alloc (Nat.le_refl _) _
 have loA : w.heap.size ≤ w.heap.size := (uh BB).size
 have EA := hA.symm; clear hA; replace RS := hide ((uh RS).up hbn); have sz1 := hide (hbn.size); replace BB := hide (below_y (uh BB) hbn); clear hbn; have A := hide Ax; clear Ax; have Ac0_1 := (uh A).cell 0 rfl; have Ac1_1 := (uh A).cell 1 rfl; have Ac2_1 := (uh A).cell 2 rfl; have Ac3_1 := (uh A).cell 3 rfl; have Ac4_1 := (uh A).cell 4 rfl; have Ac5_1 := (uh A).cell 5 rfl; have Ac6_1 := (uh A).cell 6 rfl
 go_enter Tryd.func15, Tryd.ntmps15
 go_wp2
 refine wp_region_held_drew (S := fun w' => w'.cell? ⟨w.heap.size, 0, none⟩ = some (.int .i64 9) ∧ w'.cell? ⟨w.heap.size, 1, none⟩ = some (.int .i64 num) ∧ w'.cell? ⟨w.heap.size, 2, none⟩ = some (.int .i64 uid) ∧ w'.cell? ⟨w.heap.size, 3, none⟩ = some (.int .i64 flags) ∧ w'.cell? ⟨w.heap.size, 4, none⟩ = some (.int .i64 mod) ∧ w'.cell? ⟨w.heap.size, 5, none⟩ = some (.slice a n c) ∧ w'.cell? ⟨w.heap.size, 6, none⟩ = some (.bool all)) (by kernel_rfl) (⟨(uh A).cell 0 rfl, (uh A).cell 1 rfl, (uh A).cell 2 rfl, (uh A).cell 3 rfl, (uh A).cell 4 rfl, (uh A).cell 5 rfl, (uh A).cell 6 rfl⟩) (fun hHeld => ?_)
 clear Ac0_1 Ac1_1 Ac2_1 Ac3_1 Ac4_1 Ac5_1 Ac6_1 EA; replace A := hide ((uh A).drew); replace RS := hide ((uh RS).drew); replace BB := hide ((uh BB).drew)
 have sz2 : Hid (wk1.heap.size ≤ wk1.drew.heap.size) := Nat.le_refl _
 refine tv 0 3 ?_
 refine wpAnyH_ready (rs := [1]) (by kernel_rfl) (by simp) ?_
 refine AllReadyH.cons rfl (fun K hK => ?_) AllReadyH.nil
 go_simp
 refine (lineRight9 num uid flags mod set all n a c _ (uh HS) (uh HN) (uh RS)).mono ?_
 rintro e wk2 ⟨rfl, hb⟩
 replace A := hide ((uh A).ups hb); replace RS := hide ((uh RS).up hb); have sz3 := hide (hb.size); replace BB := hide (below_y (uh BB) hb); clear hb; go_wp2_with fail
 refine hK.out _ _ (⟨(uh A).cell 0 rfl, (uh A).cell 1 rfl, (uh A).cell 2 rfl, (uh A).cell 3 rfl, (uh A).cell 4 rfl, (uh A).cell 5 rfl, (uh A).cell 6 rfl⟩) (fun hHeld2 => ?_)
 clear hK K hHeld; have hHeld := hHeld2; clear hHeld2
 try simp only [Act.put, p1, p2, p3]
 refine tv 2 5 ?_; refine tv 3 6 ?_; refine tv 4 7 ?_
 refine wpAnyH_ready (rs := [5]) (by kernel_rfl) (by simp) ?_
 refine AllReadyH.cons rfl (fun K hK => ?_) AllReadyH.nil
 go_simp
 refine (lineUses9 num uid flags mod all n a c _).mono ?_
 rintro e wk3 ⟨rfl, hb⟩
 replace A := hide ((uh A).ups hb); replace RS := hide ((uh RS).up hb); have sz4 := hide (hb.size); replace BB := hide (below_y (uh BB) hb); clear hb; go_wp2_with fail
 refine hK.out _ _ (⟨(uh A).cell 0 rfl, (uh A).cell 1 rfl, (uh A).cell 2 rfl, (uh A).cell 3 rfl, (uh A).cell 4 rfl, (uh A).cell 5 rfl, (uh A).cell 6 rfl⟩) (fun hHeld2 => ?_)
 clear hK K hHeld; have hHeld := hHeld2; clear hHeld2
 try simp only [Act.put, p1, p2, p3]
 refine wpAnyH_ready (rs := [6]) (by kernel_rfl) (by simp) ?_
 refine AllReadyH.cons rfl (fun K hK => ?_) AllReadyH.nil
 go_simp
 refine (sameLine_any _ _ _ _ _ _ _ _ _ _ _ _ _ _ _ _ _ _ (decide (n = 0)) _ (fun W hb_ => equal_nil_r a c n W (by have := uh HN; have := uh HS; omega))).mono ?_
 rintro e wk4 ⟨rfl, hb⟩
 obtain ⟨Y, hY⟩ : ∃ Y : Bool, Y = (decide ((9 : Int) = 9) && decide (num = (0 : Int)) && decide (uid = (0 : Int)) && decide (flags = (0 : Int)) && decide (mod = (0 : Int)) && decide (n = 0) && (all == false)) := ⟨_, rfl⟩
 rw [← hY]
 have HY := hide hY; clear hY; replace A := hide ((uh A).ups hb); replace RS := hide ((uh RS).up hb); have sz5 := hide (hb.size); replace BB := hide (below_y (uh BB) hb); clear hb; go_wp2_with fail
 refine hK.out _ _ (⟨(uh A).cell 0 rfl, (uh A).cell 1 rfl, (uh A).cell 2 rfl, (uh A).cell 3 rfl, (uh A).cell 4 rfl, (uh A).cell 5 rfl, (uh A).cell 6 rfl⟩) (fun hHeld2 => ?_)
 clear hK K hHeld; have hHeld := hHeld2; clear hHeld2
 try simp only [Act.put, p1, p2, p3]
 have hA : Z = Y := by rw [uh HZ, uh HY]; have hn_ := uh HN; (try simp only [← hn_]); simp
 clear HZ HY
 subst hA
 refine tv 7 10 ?_; refine tv 8 2 ?_
 refine wpAnyH_done (by kernel_rfl) ?_ _
 go_wp2
 go_ret
 exact ⟨rfl, uh BB⟩
end Go.Proofs.YtgdihceikhkddaaDoor
