/- The program's deeds. Made by gen_edit.py. -/
import Derived.Test.YtecognggnbopaacDoorEdVal
import Derived.Test.YtecognggnbopaacDoorBoxNameS
namespace Go.Proofs.YtecognggnbopaacDoor
open Go.RowKit Go.ChangeShapes Go.WideShapes Go.ChangeAt Go.Deep
open Plain
set_option linter.unusedVariables false
set_option linter.unusedSimpArgs false

set_option maxHeartbeats 4000000 in
set_option maxRecDepth 100000 in
theorem deed1 (e : Ed) (a : Option Addr) (c : Nat) (w : World) (hk : e.kind = 1) :
    Calls Tryd.prog 29 #[.agg #[.int .i64 e.kind, .string e.box, .string e.dst, .slice a e.set.length c, .int .i64 e.how, .int .i64 e.bits, .int .i64 e.since, .string e.text]] w fun x w' => x = .returned (.iface 63 (.agg #[.string e.box])) ∧ Below w.heap.size w w' := by
  rw [hk]
  have BB := hide (Below.refl w.heap.size w)
  obtain ⟨wd1, hA⟩ : ∃ X, X = w.alloc (.cells ([.int .i64 1, .string e.box, .string e.dst, .slice a e.set.length c, .int .i64 e.how, .int .i64 e.bits, .int .i64 e.since, .string e.text] : List Value).toArray 30) := ⟨_, rfl⟩
  have Ax : HasObj wd1 w.heap.size 30 [.int .i64 1, .string e.box, .string e.dst, .slice a e.set.length c, .int .i64 e.how, .int .i64 e.bits, .int .i64 e.since, .string e.text] := by rw [hA]; exact HasObj.new _ _ _
  have hbn : Below w.heap.size w wd1 := by rw [hA]; exact (Below.refl _ _).alloc (Nat.le_refl _) _
  have loA : w.heap.size ≤ w.heap.size := (unhide BB).size
  have EA := hA.symm
  clear hA
  have sz1 := hide (hbn.size)
  have BB_ := hide (below_y (unhide BB) hbn)
  clear BB
  have BB := BB_
  clear BB_
  clear hbn
  have A := hide Ax
  clear Ax
  have Ac0_1 := (unhide A).cell 0 rfl
  have Ac1_1 := (unhide A).cell 1 rfl
  have Ac2_1 := (unhide A).cell 2 rfl
  have Ac3_1 := (unhide A).cell 3 rfl
  have Ac4_1 := (unhide A).cell 4 rfl
  have Ac5_1 := (unhide A).cell 5 rfl
  have Ac6_1 := (unhide A).cell 6 rfl
  have Ac7_1 := (unhide A).cell 7 rfl
  go_enter Tryd.func29, Tryd.ntmps29
  go_wp2
  go_ret
  exact ⟨rfl, unhide BB⟩
set_option maxHeartbeats 4000000 in
set_option maxRecDepth 100000 in
theorem edit1 (e : Ed) (a : Option Addr) (c : Nat) (w : World) :
    Calls Tryd.prog 77 #[.agg #[.string e.box]] w fun x w' => x = .returned (.agg #[.int .i64 1, .string e.box, .string ⟨#[]⟩, .slice none 0 0, .int .i64 0, .int .i64 0, .int .i64 0, .string ⟨#[]⟩]) ∧ Below w.heap.size w w' := by
  have BB := hide (Below.refl w.heap.size w)
  obtain ⟨we1, hA⟩ : ∃ X, X = w.alloc (.cells ([.string e.box] : List Value).toArray 63) := ⟨_, rfl⟩
  have Ax : HasObj we1 w.heap.size 63 [.string e.box] := by rw [hA]; exact HasObj.new _ _ _
  have hbn : Below w.heap.size w we1 := by rw [hA]; exact (Below.refl _ _).alloc (Nat.le_refl _) _
  have loA : w.heap.size ≤ w.heap.size := (unhide BB).size
  have EA := hA.symm
  clear hA
  have sz1 := hide (hbn.size)
  have BB_ := hide (below_y (unhide BB) hbn)
  clear BB
  have BB := BB_
  clear BB_
  clear hbn
  have A := hide Ax
  clear Ax
  obtain ⟨we2, hR⟩ : ∃ X, X = we1.alloc (.cells ([.int .i64 0, .string ⟨#[]⟩, .string ⟨#[]⟩, .slice none 0 0, .int .i64 0, .int .i64 0, .int .i64 0, .string ⟨#[]⟩] : List Value).toArray 30) := ⟨_, rfl⟩
  have Rx : HasObj we2 we1.heap.size 30 [.int .i64 0, .string ⟨#[]⟩, .string ⟨#[]⟩, .slice none 0 0, .int .i64 0, .int .i64 0, .int .i64 0, .string ⟨#[]⟩] := by rw [hR]; exact HasObj.new _ _ _
  have hbn : Below we1.heap.size we1 we2 := by rw [hR]; exact (Below.refl _ _).alloc (Nat.le_refl _) _
  have neAR : w.heap.size ≠ we1.heap.size := Nat.ne_of_lt (unhide A).lt
  have loR : w.heap.size ≤ we1.heap.size := (unhide BB).size
  have ER := hR.symm
  clear hR
  have A_ := hide ((unhide A).ups hbn)
  clear A
  have A := A_
  clear A_
  have sz2 := hide (hbn.size)
  have BB_ := hide (below_y (unhide BB) hbn)
  clear BB
  have BB := BB_
  clear BB_
  clear hbn
  have R := hide Rx
  clear Rx
  have Ac0_1 := (unhide A).cell 0 rfl
  go_enter Tryd.func77, Tryd.ntmps77
  have Rf0 := (unhide R).frozen 0
  have Rf1 := (unhide R).frozen 1
  have Rf2 := (unhide R).frozen 2
  have Rf3 := (unhide R).frozen 3
  have Rf4 := (unhide R).frozen 4
  have Rf5 := (unhide R).frozen 5
  have Rf6 := (unhide R).frozen 6
  have Rf7 := (unhide R).frozen 7
  have Re0 := (unhide R).cell 0 rfl
  have Re1 := (unhide R).cell 1 rfl
  have Re2 := (unhide R).cell 2 rfl
  have Re3 := (unhide R).cell 3 rfl
  have Re4 := (unhide R).cell 4 rfl
  have Re5 := (unhide R).cell 5 rfl
  have Re6 := (unhide R).cell 6 rfl
  have Re7 := (unhide R).cell 7 rfl
  have F := hide (fill8 (unhide R) (.int .i64 1) (.string e.box) (.string ⟨#[]⟩) (.slice none 0 0) (.int .i64 0) (.int .i64 0) (.int .i64 0) (.string ⟨#[]⟩))
  obtain ⟨U, hU⟩ : ∃ U, U = ((((((((we2.setCell ⟨we1.heap.size, 0, none⟩ (.int .i64 1)).setCell ⟨we1.heap.size, 1, none⟩ (.string e.box)).setCell ⟨we1.heap.size, 2, none⟩ (.string ⟨#[]⟩)).setCell ⟨we1.heap.size, 3, none⟩ (.slice none 0 0)).setCell ⟨we1.heap.size, 4, none⟩ (.int .i64 0)).setCell ⟨we1.heap.size, 5, none⟩ (.int .i64 0)).setCell ⟨we1.heap.size, 6, none⟩ (.int .i64 0)).setCell ⟨we1.heap.size, 7, none⟩ (.string ⟨#[]⟩)) := ⟨_, rfl⟩
  have F9 := unhide F
  rw [← hU] at F9
  have EU := hU.symm
  clear F hU
  have v0 := F9.obj.cell 0 rfl
  have v1 := F9.obj.cell 1 rfl
  have v2 := F9.obj.cell 2 rfl
  have v3 := F9.obj.cell 3 rfl
  have v4 := F9.obj.cell 4 rfl
  have v5 := F9.obj.cell 5 rfl
  have v6 := F9.obj.cell 6 rfl
  have v7 := F9.obj.cell 7 rfl
  have F := hide F9
  clear F9
  go_wp2_with (refine bodyPost_ret (by simp [results, Tryd.results77, go_sem, v0, v1, v2, v3, v4, v5, v6, v7]; try rfl) rfl ?_)
  clear EU
  have F := unhide F
  exact F.below loR (unhide BB)
set_option maxHeartbeats 4000000 in
set_option maxRecDepth 100000 in
theorem deed2 (e : Ed) (a : Option Addr) (c : Nat) (w : World) (hk : e.kind = 2) :
    Calls Tryd.prog 29 #[.agg #[.int .i64 e.kind, .string e.box, .string e.dst, .slice a e.set.length c, .int .i64 e.how, .int .i64 e.bits, .int .i64 e.since, .string e.text]] w fun x w' => x = .returned (.iface 64 (.agg #[.string e.box])) ∧ Below w.heap.size w w' := by
  rw [hk]
  have BB := hide (Below.refl w.heap.size w)
  obtain ⟨wd1, hA⟩ : ∃ X, X = w.alloc (.cells ([.int .i64 2, .string e.box, .string e.dst, .slice a e.set.length c, .int .i64 e.how, .int .i64 e.bits, .int .i64 e.since, .string e.text] : List Value).toArray 30) := ⟨_, rfl⟩
  have Ax : HasObj wd1 w.heap.size 30 [.int .i64 2, .string e.box, .string e.dst, .slice a e.set.length c, .int .i64 e.how, .int .i64 e.bits, .int .i64 e.since, .string e.text] := by rw [hA]; exact HasObj.new _ _ _
  have hbn : Below w.heap.size w wd1 := by rw [hA]; exact (Below.refl _ _).alloc (Nat.le_refl _) _
  have loA : w.heap.size ≤ w.heap.size := (unhide BB).size
  have EA := hA.symm
  clear hA
  have sz1 := hide (hbn.size)
  have BB_ := hide (below_y (unhide BB) hbn)
  clear BB
  have BB := BB_
  clear BB_
  clear hbn
  have A := hide Ax
  clear Ax
  have Ac0_1 := (unhide A).cell 0 rfl
  have Ac1_1 := (unhide A).cell 1 rfl
  have Ac2_1 := (unhide A).cell 2 rfl
  have Ac3_1 := (unhide A).cell 3 rfl
  have Ac4_1 := (unhide A).cell 4 rfl
  have Ac5_1 := (unhide A).cell 5 rfl
  have Ac6_1 := (unhide A).cell 6 rfl
  have Ac7_1 := (unhide A).cell 7 rfl
  go_enter Tryd.func29, Tryd.ntmps29
  go_wp2
  go_ret
  exact ⟨rfl, unhide BB⟩
set_option maxHeartbeats 4000000 in
set_option maxRecDepth 100000 in
theorem edit2 (e : Ed) (a : Option Addr) (c : Nat) (w : World) :
    Calls Tryd.prog 79 #[.agg #[.string e.box]] w fun x w' => x = .returned (.agg #[.int .i64 2, .string e.box, .string ⟨#[]⟩, .slice none 0 0, .int .i64 0, .int .i64 0, .int .i64 0, .string ⟨#[]⟩]) ∧ Below w.heap.size w w' := by
  have BB := hide (Below.refl w.heap.size w)
  obtain ⟨we1, hA⟩ : ∃ X, X = w.alloc (.cells ([.string e.box] : List Value).toArray 64) := ⟨_, rfl⟩
  have Ax : HasObj we1 w.heap.size 64 [.string e.box] := by rw [hA]; exact HasObj.new _ _ _
  have hbn : Below w.heap.size w we1 := by rw [hA]; exact (Below.refl _ _).alloc (Nat.le_refl _) _
  have loA : w.heap.size ≤ w.heap.size := (unhide BB).size
  have EA := hA.symm
  clear hA
  have sz1 := hide (hbn.size)
  have BB_ := hide (below_y (unhide BB) hbn)
  clear BB
  have BB := BB_
  clear BB_
  clear hbn
  have A := hide Ax
  clear Ax
  obtain ⟨we2, hR⟩ : ∃ X, X = we1.alloc (.cells ([.int .i64 0, .string ⟨#[]⟩, .string ⟨#[]⟩, .slice none 0 0, .int .i64 0, .int .i64 0, .int .i64 0, .string ⟨#[]⟩] : List Value).toArray 30) := ⟨_, rfl⟩
  have Rx : HasObj we2 we1.heap.size 30 [.int .i64 0, .string ⟨#[]⟩, .string ⟨#[]⟩, .slice none 0 0, .int .i64 0, .int .i64 0, .int .i64 0, .string ⟨#[]⟩] := by rw [hR]; exact HasObj.new _ _ _
  have hbn : Below we1.heap.size we1 we2 := by rw [hR]; exact (Below.refl _ _).alloc (Nat.le_refl _) _
  have neAR : w.heap.size ≠ we1.heap.size := Nat.ne_of_lt (unhide A).lt
  have loR : w.heap.size ≤ we1.heap.size := (unhide BB).size
  have ER := hR.symm
  clear hR
  have A_ := hide ((unhide A).ups hbn)
  clear A
  have A := A_
  clear A_
  have sz2 := hide (hbn.size)
  have BB_ := hide (below_y (unhide BB) hbn)
  clear BB
  have BB := BB_
  clear BB_
  clear hbn
  have R := hide Rx
  clear Rx
  have Ac0_1 := (unhide A).cell 0 rfl
  go_enter Tryd.func79, Tryd.ntmps79
  have Rf0 := (unhide R).frozen 0
  have Rf1 := (unhide R).frozen 1
  have Rf2 := (unhide R).frozen 2
  have Rf3 := (unhide R).frozen 3
  have Rf4 := (unhide R).frozen 4
  have Rf5 := (unhide R).frozen 5
  have Rf6 := (unhide R).frozen 6
  have Rf7 := (unhide R).frozen 7
  have Re0 := (unhide R).cell 0 rfl
  have Re1 := (unhide R).cell 1 rfl
  have Re2 := (unhide R).cell 2 rfl
  have Re3 := (unhide R).cell 3 rfl
  have Re4 := (unhide R).cell 4 rfl
  have Re5 := (unhide R).cell 5 rfl
  have Re6 := (unhide R).cell 6 rfl
  have Re7 := (unhide R).cell 7 rfl
  have F := hide (fill8 (unhide R) (.int .i64 2) (.string e.box) (.string ⟨#[]⟩) (.slice none 0 0) (.int .i64 0) (.int .i64 0) (.int .i64 0) (.string ⟨#[]⟩))
  obtain ⟨U, hU⟩ : ∃ U, U = ((((((((we2.setCell ⟨we1.heap.size, 0, none⟩ (.int .i64 2)).setCell ⟨we1.heap.size, 1, none⟩ (.string e.box)).setCell ⟨we1.heap.size, 2, none⟩ (.string ⟨#[]⟩)).setCell ⟨we1.heap.size, 3, none⟩ (.slice none 0 0)).setCell ⟨we1.heap.size, 4, none⟩ (.int .i64 0)).setCell ⟨we1.heap.size, 5, none⟩ (.int .i64 0)).setCell ⟨we1.heap.size, 6, none⟩ (.int .i64 0)).setCell ⟨we1.heap.size, 7, none⟩ (.string ⟨#[]⟩)) := ⟨_, rfl⟩
  have F9 := unhide F
  rw [← hU] at F9
  have EU := hU.symm
  clear F hU
  have v0 := F9.obj.cell 0 rfl
  have v1 := F9.obj.cell 1 rfl
  have v2 := F9.obj.cell 2 rfl
  have v3 := F9.obj.cell 3 rfl
  have v4 := F9.obj.cell 4 rfl
  have v5 := F9.obj.cell 5 rfl
  have v6 := F9.obj.cell 6 rfl
  have v7 := F9.obj.cell 7 rfl
  have F := hide F9
  clear F9
  go_wp2_with (refine bodyPost_ret (by simp [results, Tryd.results79, go_sem, v0, v1, v2, v3, v4, v5, v6, v7]; try rfl) rfl ?_)
  clear EU
  have F := unhide F
  exact F.below loR (unhide BB)
set_option maxHeartbeats 4000000 in
set_option maxRecDepth 100000 in
theorem deed3 (e : Ed) (a : Option Addr) (c : Nat) (w : World) (hk : e.kind = 3) :
    Calls Tryd.prog 29 #[.agg #[.int .i64 e.kind, .string e.box, .string e.dst, .slice a e.set.length c, .int .i64 e.how, .int .i64 e.bits, .int .i64 e.since, .string e.text]] w fun x w' => x = .returned (.iface 66 (.agg #[.string e.box, .int .i64 e.bits, .string e.text])) ∧ Below w.heap.size w w' := by
  rw [hk]
  have BB := hide (Below.refl w.heap.size w)
  obtain ⟨wd1, hA⟩ : ∃ X, X = w.alloc (.cells ([.int .i64 3, .string e.box, .string e.dst, .slice a e.set.length c, .int .i64 e.how, .int .i64 e.bits, .int .i64 e.since, .string e.text] : List Value).toArray 30) := ⟨_, rfl⟩
  have Ax : HasObj wd1 w.heap.size 30 [.int .i64 3, .string e.box, .string e.dst, .slice a e.set.length c, .int .i64 e.how, .int .i64 e.bits, .int .i64 e.since, .string e.text] := by rw [hA]; exact HasObj.new _ _ _
  have hbn : Below w.heap.size w wd1 := by rw [hA]; exact (Below.refl _ _).alloc (Nat.le_refl _) _
  have loA : w.heap.size ≤ w.heap.size := (unhide BB).size
  have EA := hA.symm
  clear hA
  have sz1 := hide (hbn.size)
  have BB_ := hide (below_y (unhide BB) hbn)
  clear BB
  have BB := BB_
  clear BB_
  clear hbn
  have A := hide Ax
  clear Ax
  have Ac0_1 := (unhide A).cell 0 rfl
  have Ac1_1 := (unhide A).cell 1 rfl
  have Ac2_1 := (unhide A).cell 2 rfl
  have Ac3_1 := (unhide A).cell 3 rfl
  have Ac4_1 := (unhide A).cell 4 rfl
  have Ac5_1 := (unhide A).cell 5 rfl
  have Ac6_1 := (unhide A).cell 6 rfl
  have Ac7_1 := (unhide A).cell 7 rfl
  go_enter Tryd.func29, Tryd.ntmps29
  go_wp2
  go_ret
  exact ⟨rfl, unhide BB⟩
set_option maxHeartbeats 4000000 in
set_option maxRecDepth 100000 in
theorem edit3 (e : Ed) (a : Option Addr) (c : Nat) (w : World) :
    Calls Tryd.prog 81 #[.agg #[.string e.box, .int .i64 e.bits, .string e.text]] w fun x w' => x = .returned (.agg #[.int .i64 3, .string e.box, .string ⟨#[]⟩, .slice none 0 0, .int .i64 0, .int .i64 e.bits, .int .i64 0, .string e.text]) ∧ Below w.heap.size w w' := by
  have BB := hide (Below.refl w.heap.size w)
  obtain ⟨we1, hA⟩ : ∃ X, X = w.alloc (.cells ([.string e.box, .int .i64 e.bits, .string e.text] : List Value).toArray 66) := ⟨_, rfl⟩
  have Ax : HasObj we1 w.heap.size 66 [.string e.box, .int .i64 e.bits, .string e.text] := by rw [hA]; exact HasObj.new _ _ _
  have hbn : Below w.heap.size w we1 := by rw [hA]; exact (Below.refl _ _).alloc (Nat.le_refl _) _
  have loA : w.heap.size ≤ w.heap.size := (unhide BB).size
  have EA := hA.symm
  clear hA
  have sz1 := hide (hbn.size)
  have BB_ := hide (below_y (unhide BB) hbn)
  clear BB
  have BB := BB_
  clear BB_
  clear hbn
  have A := hide Ax
  clear Ax
  obtain ⟨we2, hR⟩ : ∃ X, X = we1.alloc (.cells ([.int .i64 0, .string ⟨#[]⟩, .string ⟨#[]⟩, .slice none 0 0, .int .i64 0, .int .i64 0, .int .i64 0, .string ⟨#[]⟩] : List Value).toArray 30) := ⟨_, rfl⟩
  have Rx : HasObj we2 we1.heap.size 30 [.int .i64 0, .string ⟨#[]⟩, .string ⟨#[]⟩, .slice none 0 0, .int .i64 0, .int .i64 0, .int .i64 0, .string ⟨#[]⟩] := by rw [hR]; exact HasObj.new _ _ _
  have hbn : Below we1.heap.size we1 we2 := by rw [hR]; exact (Below.refl _ _).alloc (Nat.le_refl _) _
  have neAR : w.heap.size ≠ we1.heap.size := Nat.ne_of_lt (unhide A).lt
  have loR : w.heap.size ≤ we1.heap.size := (unhide BB).size
  have ER := hR.symm
  clear hR
  have A_ := hide ((unhide A).ups hbn)
  clear A
  have A := A_
  clear A_
  have sz2 := hide (hbn.size)
  have BB_ := hide (below_y (unhide BB) hbn)
  clear BB
  have BB := BB_
  clear BB_
  clear hbn
  have R := hide Rx
  clear Rx
  have Ac0_1 := (unhide A).cell 0 rfl
  have Ac1_1 := (unhide A).cell 1 rfl
  have Ac2_1 := (unhide A).cell 2 rfl
  go_enter Tryd.func81, Tryd.ntmps81
  have Rf0 := (unhide R).frozen 0
  have Rf1 := (unhide R).frozen 1
  have Rf2 := (unhide R).frozen 2
  have Rf3 := (unhide R).frozen 3
  have Rf4 := (unhide R).frozen 4
  have Rf5 := (unhide R).frozen 5
  have Rf6 := (unhide R).frozen 6
  have Rf7 := (unhide R).frozen 7
  have Re0 := (unhide R).cell 0 rfl
  have Re1 := (unhide R).cell 1 rfl
  have Re2 := (unhide R).cell 2 rfl
  have Re3 := (unhide R).cell 3 rfl
  have Re4 := (unhide R).cell 4 rfl
  have Re5 := (unhide R).cell 5 rfl
  have Re6 := (unhide R).cell 6 rfl
  have Re7 := (unhide R).cell 7 rfl
  have F := hide (fill8 (unhide R) (.int .i64 3) (.string e.box) (.string ⟨#[]⟩) (.slice none 0 0) (.int .i64 0) (.int .i64 e.bits) (.int .i64 0) (.string e.text))
  obtain ⟨U, hU⟩ : ∃ U, U = ((((((((we2.setCell ⟨we1.heap.size, 0, none⟩ (.int .i64 3)).setCell ⟨we1.heap.size, 1, none⟩ (.string e.box)).setCell ⟨we1.heap.size, 2, none⟩ (.string ⟨#[]⟩)).setCell ⟨we1.heap.size, 3, none⟩ (.slice none 0 0)).setCell ⟨we1.heap.size, 4, none⟩ (.int .i64 0)).setCell ⟨we1.heap.size, 5, none⟩ (.int .i64 e.bits)).setCell ⟨we1.heap.size, 6, none⟩ (.int .i64 0)).setCell ⟨we1.heap.size, 7, none⟩ (.string e.text)) := ⟨_, rfl⟩
  have F9 := unhide F
  rw [← hU] at F9
  have EU := hU.symm
  clear F hU
  have v0 := F9.obj.cell 0 rfl
  have v1 := F9.obj.cell 1 rfl
  have v2 := F9.obj.cell 2 rfl
  have v3 := F9.obj.cell 3 rfl
  have v4 := F9.obj.cell 4 rfl
  have v5 := F9.obj.cell 5 rfl
  have v6 := F9.obj.cell 6 rfl
  have v7 := F9.obj.cell 7 rfl
  have F := hide F9
  clear F9
  go_wp2_with (refine bodyPost_ret (by simp [results, Tryd.results81, go_sem, v0, v1, v2, v3, v4, v5, v6, v7]; try rfl) rfl ?_)
  clear EU
  have F := unhide F
  exact F.below loR (unhide BB)
set_option maxHeartbeats 4000000 in
set_option maxRecDepth 100000 in
theorem deed4 (e : Ed) (a : Option Addr) (c : Nat) (w : World) (hk : e.kind = 4) :
    Calls Tryd.prog 29 #[.agg #[.int .i64 e.kind, .string e.box, .string e.dst, .slice a e.set.length c, .int .i64 e.how, .int .i64 e.bits, .int .i64 e.since, .string e.text]] w fun x w' => x = .returned (.iface 68 (.agg #[.string e.box, .slice a e.set.length c, .int .i64 e.how, .int .i64 e.bits, .int .i64 e.since])) ∧ Below w.heap.size w w' := by
  rw [hk]
  have BB := hide (Below.refl w.heap.size w)
  obtain ⟨wd1, hA⟩ : ∃ X, X = w.alloc (.cells ([.int .i64 4, .string e.box, .string e.dst, .slice a e.set.length c, .int .i64 e.how, .int .i64 e.bits, .int .i64 e.since, .string e.text] : List Value).toArray 30) := ⟨_, rfl⟩
  have Ax : HasObj wd1 w.heap.size 30 [.int .i64 4, .string e.box, .string e.dst, .slice a e.set.length c, .int .i64 e.how, .int .i64 e.bits, .int .i64 e.since, .string e.text] := by rw [hA]; exact HasObj.new _ _ _
  have hbn : Below w.heap.size w wd1 := by rw [hA]; exact (Below.refl _ _).alloc (Nat.le_refl _) _
  have loA : w.heap.size ≤ w.heap.size := (unhide BB).size
  have EA := hA.symm
  clear hA
  have sz1 := hide (hbn.size)
  have BB_ := hide (below_y (unhide BB) hbn)
  clear BB
  have BB := BB_
  clear BB_
  clear hbn
  have A := hide Ax
  clear Ax
  have Ac0_1 := (unhide A).cell 0 rfl
  have Ac1_1 := (unhide A).cell 1 rfl
  have Ac2_1 := (unhide A).cell 2 rfl
  have Ac3_1 := (unhide A).cell 3 rfl
  have Ac4_1 := (unhide A).cell 4 rfl
  have Ac5_1 := (unhide A).cell 5 rfl
  have Ac6_1 := (unhide A).cell 6 rfl
  have Ac7_1 := (unhide A).cell 7 rfl
  go_enter Tryd.func29, Tryd.ntmps29
  go_wp2
  go_ret
  exact ⟨rfl, unhide BB⟩
set_option maxHeartbeats 4000000 in
set_option maxRecDepth 100000 in
theorem edit4 (e : Ed) (a : Option Addr) (c : Nat) (w : World) :
    Calls Tryd.prog 85 #[.agg #[.string e.box, .slice a e.set.length c, .int .i64 e.how, .int .i64 e.bits, .int .i64 e.since]] w fun x w' => x = .returned (.agg #[.int .i64 4, .string e.box, .string ⟨#[]⟩, .slice a e.set.length c, .int .i64 e.how, .int .i64 e.bits, .int .i64 e.since, .string ⟨#[]⟩]) ∧ Below w.heap.size w w' := by
  have BB := hide (Below.refl w.heap.size w)
  obtain ⟨we1, hA⟩ : ∃ X, X = w.alloc (.cells ([.string e.box, .slice a e.set.length c, .int .i64 e.how, .int .i64 e.bits, .int .i64 e.since] : List Value).toArray 68) := ⟨_, rfl⟩
  have Ax : HasObj we1 w.heap.size 68 [.string e.box, .slice a e.set.length c, .int .i64 e.how, .int .i64 e.bits, .int .i64 e.since] := by rw [hA]; exact HasObj.new _ _ _
  have hbn : Below w.heap.size w we1 := by rw [hA]; exact (Below.refl _ _).alloc (Nat.le_refl _) _
  have loA : w.heap.size ≤ w.heap.size := (unhide BB).size
  have EA := hA.symm
  clear hA
  have sz1 := hide (hbn.size)
  have BB_ := hide (below_y (unhide BB) hbn)
  clear BB
  have BB := BB_
  clear BB_
  clear hbn
  have A := hide Ax
  clear Ax
  obtain ⟨we2, hR⟩ : ∃ X, X = we1.alloc (.cells ([.int .i64 0, .string ⟨#[]⟩, .string ⟨#[]⟩, .slice none 0 0, .int .i64 0, .int .i64 0, .int .i64 0, .string ⟨#[]⟩] : List Value).toArray 30) := ⟨_, rfl⟩
  have Rx : HasObj we2 we1.heap.size 30 [.int .i64 0, .string ⟨#[]⟩, .string ⟨#[]⟩, .slice none 0 0, .int .i64 0, .int .i64 0, .int .i64 0, .string ⟨#[]⟩] := by rw [hR]; exact HasObj.new _ _ _
  have hbn : Below we1.heap.size we1 we2 := by rw [hR]; exact (Below.refl _ _).alloc (Nat.le_refl _) _
  have neAR : w.heap.size ≠ we1.heap.size := Nat.ne_of_lt (unhide A).lt
  have loR : w.heap.size ≤ we1.heap.size := (unhide BB).size
  have ER := hR.symm
  clear hR
  have A_ := hide ((unhide A).ups hbn)
  clear A
  have A := A_
  clear A_
  have sz2 := hide (hbn.size)
  have BB_ := hide (below_y (unhide BB) hbn)
  clear BB
  have BB := BB_
  clear BB_
  clear hbn
  have R := hide Rx
  clear Rx
  have Ac0_1 := (unhide A).cell 0 rfl
  have Ac1_1 := (unhide A).cell 1 rfl
  have Ac2_1 := (unhide A).cell 2 rfl
  have Ac3_1 := (unhide A).cell 3 rfl
  have Ac4_1 := (unhide A).cell 4 rfl
  go_enter Tryd.func85, Tryd.ntmps85
  have Rf0 := (unhide R).frozen 0
  have Rf1 := (unhide R).frozen 1
  have Rf2 := (unhide R).frozen 2
  have Rf3 := (unhide R).frozen 3
  have Rf4 := (unhide R).frozen 4
  have Rf5 := (unhide R).frozen 5
  have Rf6 := (unhide R).frozen 6
  have Rf7 := (unhide R).frozen 7
  have Re0 := (unhide R).cell 0 rfl
  have Re1 := (unhide R).cell 1 rfl
  have Re2 := (unhide R).cell 2 rfl
  have Re3 := (unhide R).cell 3 rfl
  have Re4 := (unhide R).cell 4 rfl
  have Re5 := (unhide R).cell 5 rfl
  have Re6 := (unhide R).cell 6 rfl
  have Re7 := (unhide R).cell 7 rfl
  have F := hide (fill8 (unhide R) (.int .i64 4) (.string e.box) (.string ⟨#[]⟩) (.slice a e.set.length c) (.int .i64 e.how) (.int .i64 e.bits) (.int .i64 e.since) (.string ⟨#[]⟩))
  obtain ⟨U, hU⟩ : ∃ U, U = ((((((((we2.setCell ⟨we1.heap.size, 0, none⟩ (.int .i64 4)).setCell ⟨we1.heap.size, 1, none⟩ (.string e.box)).setCell ⟨we1.heap.size, 2, none⟩ (.string ⟨#[]⟩)).setCell ⟨we1.heap.size, 3, none⟩ (.slice a e.set.length c)).setCell ⟨we1.heap.size, 4, none⟩ (.int .i64 e.how)).setCell ⟨we1.heap.size, 5, none⟩ (.int .i64 e.bits)).setCell ⟨we1.heap.size, 6, none⟩ (.int .i64 e.since)).setCell ⟨we1.heap.size, 7, none⟩ (.string ⟨#[]⟩)) := ⟨_, rfl⟩
  have F9 := unhide F
  rw [← hU] at F9
  have EU := hU.symm
  clear F hU
  have v0 := F9.obj.cell 0 rfl
  have v1 := F9.obj.cell 1 rfl
  have v2 := F9.obj.cell 2 rfl
  have v3 := F9.obj.cell 3 rfl
  have v4 := F9.obj.cell 4 rfl
  have v5 := F9.obj.cell 5 rfl
  have v6 := F9.obj.cell 6 rfl
  have v7 := F9.obj.cell 7 rfl
  have F := hide F9
  clear F9
  go_wp2_with (refine bodyPost_ret (by simp [results, Tryd.results85, go_sem, v0, v1, v2, v3, v4, v5, v6, v7]; try rfl) rfl ?_)
  clear EU
  have F := unhide F
  exact F.below loR (unhide BB)
set_option maxHeartbeats 4000000 in
set_option maxRecDepth 100000 in
theorem deed5 (e : Ed) (a : Option Addr) (c : Nat) (w : World) (hk : e.kind = 5) :
    Calls Tryd.prog 29 #[.agg #[.int .i64 e.kind, .string e.box, .string e.dst, .slice a e.set.length c, .int .i64 e.how, .int .i64 e.bits, .int .i64 e.since, .string e.text]] w fun x w' => x = .returned (.iface 70 (.agg #[.string e.box, .slice a e.set.length c])) ∧ Below w.heap.size w w' := by
  rw [hk]
  have BB := hide (Below.refl w.heap.size w)
  obtain ⟨wd1, hA⟩ : ∃ X, X = w.alloc (.cells ([.int .i64 5, .string e.box, .string e.dst, .slice a e.set.length c, .int .i64 e.how, .int .i64 e.bits, .int .i64 e.since, .string e.text] : List Value).toArray 30) := ⟨_, rfl⟩
  have Ax : HasObj wd1 w.heap.size 30 [.int .i64 5, .string e.box, .string e.dst, .slice a e.set.length c, .int .i64 e.how, .int .i64 e.bits, .int .i64 e.since, .string e.text] := by rw [hA]; exact HasObj.new _ _ _
  have hbn : Below w.heap.size w wd1 := by rw [hA]; exact (Below.refl _ _).alloc (Nat.le_refl _) _
  have loA : w.heap.size ≤ w.heap.size := (unhide BB).size
  have EA := hA.symm
  clear hA
  have sz1 := hide (hbn.size)
  have BB_ := hide (below_y (unhide BB) hbn)
  clear BB
  have BB := BB_
  clear BB_
  clear hbn
  have A := hide Ax
  clear Ax
  have Ac0_1 := (unhide A).cell 0 rfl
  have Ac1_1 := (unhide A).cell 1 rfl
  have Ac2_1 := (unhide A).cell 2 rfl
  have Ac3_1 := (unhide A).cell 3 rfl
  have Ac4_1 := (unhide A).cell 4 rfl
  have Ac5_1 := (unhide A).cell 5 rfl
  have Ac6_1 := (unhide A).cell 6 rfl
  have Ac7_1 := (unhide A).cell 7 rfl
  go_enter Tryd.func29, Tryd.ntmps29
  go_wp2
  go_ret
  exact ⟨rfl, unhide BB⟩
set_option maxHeartbeats 4000000 in
set_option maxRecDepth 100000 in
theorem edit5 (e : Ed) (a : Option Addr) (c : Nat) (w : World) :
    Calls Tryd.prog 88 #[.agg #[.string e.box, .slice a e.set.length c]] w fun x w' => x = .returned (.agg #[.int .i64 5, .string e.box, .string ⟨#[]⟩, .slice a e.set.length c, .int .i64 0, .int .i64 0, .int .i64 0, .string ⟨#[]⟩]) ∧ Below w.heap.size w w' := by
  have BB := hide (Below.refl w.heap.size w)
  obtain ⟨we1, hA⟩ : ∃ X, X = w.alloc (.cells ([.string e.box, .slice a e.set.length c] : List Value).toArray 70) := ⟨_, rfl⟩
  have Ax : HasObj we1 w.heap.size 70 [.string e.box, .slice a e.set.length c] := by rw [hA]; exact HasObj.new _ _ _
  have hbn : Below w.heap.size w we1 := by rw [hA]; exact (Below.refl _ _).alloc (Nat.le_refl _) _
  have loA : w.heap.size ≤ w.heap.size := (unhide BB).size
  have EA := hA.symm
  clear hA
  have sz1 := hide (hbn.size)
  have BB_ := hide (below_y (unhide BB) hbn)
  clear BB
  have BB := BB_
  clear BB_
  clear hbn
  have A := hide Ax
  clear Ax
  obtain ⟨we2, hR⟩ : ∃ X, X = we1.alloc (.cells ([.int .i64 0, .string ⟨#[]⟩, .string ⟨#[]⟩, .slice none 0 0, .int .i64 0, .int .i64 0, .int .i64 0, .string ⟨#[]⟩] : List Value).toArray 30) := ⟨_, rfl⟩
  have Rx : HasObj we2 we1.heap.size 30 [.int .i64 0, .string ⟨#[]⟩, .string ⟨#[]⟩, .slice none 0 0, .int .i64 0, .int .i64 0, .int .i64 0, .string ⟨#[]⟩] := by rw [hR]; exact HasObj.new _ _ _
  have hbn : Below we1.heap.size we1 we2 := by rw [hR]; exact (Below.refl _ _).alloc (Nat.le_refl _) _
  have neAR : w.heap.size ≠ we1.heap.size := Nat.ne_of_lt (unhide A).lt
  have loR : w.heap.size ≤ we1.heap.size := (unhide BB).size
  have ER := hR.symm
  clear hR
  have A_ := hide ((unhide A).ups hbn)
  clear A
  have A := A_
  clear A_
  have sz2 := hide (hbn.size)
  have BB_ := hide (below_y (unhide BB) hbn)
  clear BB
  have BB := BB_
  clear BB_
  clear hbn
  have R := hide Rx
  clear Rx
  have Ac0_1 := (unhide A).cell 0 rfl
  have Ac1_1 := (unhide A).cell 1 rfl
  go_enter Tryd.func88, Tryd.ntmps88
  have Rf0 := (unhide R).frozen 0
  have Rf1 := (unhide R).frozen 1
  have Rf2 := (unhide R).frozen 2
  have Rf3 := (unhide R).frozen 3
  have Rf4 := (unhide R).frozen 4
  have Rf5 := (unhide R).frozen 5
  have Rf6 := (unhide R).frozen 6
  have Rf7 := (unhide R).frozen 7
  have Re0 := (unhide R).cell 0 rfl
  have Re1 := (unhide R).cell 1 rfl
  have Re2 := (unhide R).cell 2 rfl
  have Re3 := (unhide R).cell 3 rfl
  have Re4 := (unhide R).cell 4 rfl
  have Re5 := (unhide R).cell 5 rfl
  have Re6 := (unhide R).cell 6 rfl
  have Re7 := (unhide R).cell 7 rfl
  have F := hide (fill8 (unhide R) (.int .i64 5) (.string e.box) (.string ⟨#[]⟩) (.slice a e.set.length c) (.int .i64 0) (.int .i64 0) (.int .i64 0) (.string ⟨#[]⟩))
  obtain ⟨U, hU⟩ : ∃ U, U = ((((((((we2.setCell ⟨we1.heap.size, 0, none⟩ (.int .i64 5)).setCell ⟨we1.heap.size, 1, none⟩ (.string e.box)).setCell ⟨we1.heap.size, 2, none⟩ (.string ⟨#[]⟩)).setCell ⟨we1.heap.size, 3, none⟩ (.slice a e.set.length c)).setCell ⟨we1.heap.size, 4, none⟩ (.int .i64 0)).setCell ⟨we1.heap.size, 5, none⟩ (.int .i64 0)).setCell ⟨we1.heap.size, 6, none⟩ (.int .i64 0)).setCell ⟨we1.heap.size, 7, none⟩ (.string ⟨#[]⟩)) := ⟨_, rfl⟩
  have F9 := unhide F
  rw [← hU] at F9
  have EU := hU.symm
  clear F hU
  have v0 := F9.obj.cell 0 rfl
  have v1 := F9.obj.cell 1 rfl
  have v2 := F9.obj.cell 2 rfl
  have v3 := F9.obj.cell 3 rfl
  have v4 := F9.obj.cell 4 rfl
  have v5 := F9.obj.cell 5 rfl
  have v6 := F9.obj.cell 6 rfl
  have v7 := F9.obj.cell 7 rfl
  have F := hide F9
  clear F9
  go_wp2_with (refine bodyPost_ret (by simp [results, Tryd.results88, go_sem, v0, v1, v2, v3, v4, v5, v6, v7]; try rfl) rfl ?_)
  clear EU
  have F := unhide F
  exact F.below loR (unhide BB)
set_option maxHeartbeats 4000000 in
set_option maxRecDepth 100000 in
theorem deed6 (e : Ed) (a : Option Addr) (c : Nat) (w : World) (hk : e.kind = 6) :
    Calls Tryd.prog 29 #[.agg #[.int .i64 e.kind, .string e.box, .string e.dst, .slice a e.set.length c, .int .i64 e.how, .int .i64 e.bits, .int .i64 e.since, .string e.text]] w fun x w' => x = .returned (.iface 72 (.agg #[.string e.box, .slice a e.set.length c, .string e.dst])) ∧ Below w.heap.size w w' := by
  rw [hk]
  have BB := hide (Below.refl w.heap.size w)
  obtain ⟨wd1, hA⟩ : ∃ X, X = w.alloc (.cells ([.int .i64 6, .string e.box, .string e.dst, .slice a e.set.length c, .int .i64 e.how, .int .i64 e.bits, .int .i64 e.since, .string e.text] : List Value).toArray 30) := ⟨_, rfl⟩
  have Ax : HasObj wd1 w.heap.size 30 [.int .i64 6, .string e.box, .string e.dst, .slice a e.set.length c, .int .i64 e.how, .int .i64 e.bits, .int .i64 e.since, .string e.text] := by rw [hA]; exact HasObj.new _ _ _
  have hbn : Below w.heap.size w wd1 := by rw [hA]; exact (Below.refl _ _).alloc (Nat.le_refl _) _
  have loA : w.heap.size ≤ w.heap.size := (unhide BB).size
  have EA := hA.symm
  clear hA
  have sz1 := hide (hbn.size)
  have BB_ := hide (below_y (unhide BB) hbn)
  clear BB
  have BB := BB_
  clear BB_
  clear hbn
  have A := hide Ax
  clear Ax
  have Ac0_1 := (unhide A).cell 0 rfl
  have Ac1_1 := (unhide A).cell 1 rfl
  have Ac2_1 := (unhide A).cell 2 rfl
  have Ac3_1 := (unhide A).cell 3 rfl
  have Ac4_1 := (unhide A).cell 4 rfl
  have Ac5_1 := (unhide A).cell 5 rfl
  have Ac6_1 := (unhide A).cell 6 rfl
  have Ac7_1 := (unhide A).cell 7 rfl
  go_enter Tryd.func29, Tryd.ntmps29
  go_wp2
  go_ret
  exact ⟨rfl, unhide BB⟩
set_option maxHeartbeats 4000000 in
set_option maxRecDepth 100000 in
theorem edit6 (e : Ed) (a : Option Addr) (c : Nat) (w : World) :
    Calls Tryd.prog 90 #[.agg #[.string e.box, .slice a e.set.length c, .string e.dst]] w fun x w' => x = .returned (.agg #[.int .i64 6, .string e.box, .string e.dst, .slice a e.set.length c, .int .i64 0, .int .i64 0, .int .i64 0, .string ⟨#[]⟩]) ∧ Below w.heap.size w w' := by
  have BB := hide (Below.refl w.heap.size w)
  obtain ⟨we1, hA⟩ : ∃ X, X = w.alloc (.cells ([.string e.box, .slice a e.set.length c, .string e.dst] : List Value).toArray 72) := ⟨_, rfl⟩
  have Ax : HasObj we1 w.heap.size 72 [.string e.box, .slice a e.set.length c, .string e.dst] := by rw [hA]; exact HasObj.new _ _ _
  have hbn : Below w.heap.size w we1 := by rw [hA]; exact (Below.refl _ _).alloc (Nat.le_refl _) _
  have loA : w.heap.size ≤ w.heap.size := (unhide BB).size
  have EA := hA.symm
  clear hA
  have sz1 := hide (hbn.size)
  have BB_ := hide (below_y (unhide BB) hbn)
  clear BB
  have BB := BB_
  clear BB_
  clear hbn
  have A := hide Ax
  clear Ax
  obtain ⟨we2, hR⟩ : ∃ X, X = we1.alloc (.cells ([.int .i64 0, .string ⟨#[]⟩, .string ⟨#[]⟩, .slice none 0 0, .int .i64 0, .int .i64 0, .int .i64 0, .string ⟨#[]⟩] : List Value).toArray 30) := ⟨_, rfl⟩
  have Rx : HasObj we2 we1.heap.size 30 [.int .i64 0, .string ⟨#[]⟩, .string ⟨#[]⟩, .slice none 0 0, .int .i64 0, .int .i64 0, .int .i64 0, .string ⟨#[]⟩] := by rw [hR]; exact HasObj.new _ _ _
  have hbn : Below we1.heap.size we1 we2 := by rw [hR]; exact (Below.refl _ _).alloc (Nat.le_refl _) _
  have neAR : w.heap.size ≠ we1.heap.size := Nat.ne_of_lt (unhide A).lt
  have loR : w.heap.size ≤ we1.heap.size := (unhide BB).size
  have ER := hR.symm
  clear hR
  have A_ := hide ((unhide A).ups hbn)
  clear A
  have A := A_
  clear A_
  have sz2 := hide (hbn.size)
  have BB_ := hide (below_y (unhide BB) hbn)
  clear BB
  have BB := BB_
  clear BB_
  clear hbn
  have R := hide Rx
  clear Rx
  have Ac0_1 := (unhide A).cell 0 rfl
  have Ac1_1 := (unhide A).cell 1 rfl
  have Ac2_1 := (unhide A).cell 2 rfl
  go_enter Tryd.func90, Tryd.ntmps90
  have Rf0 := (unhide R).frozen 0
  have Rf1 := (unhide R).frozen 1
  have Rf2 := (unhide R).frozen 2
  have Rf3 := (unhide R).frozen 3
  have Rf4 := (unhide R).frozen 4
  have Rf5 := (unhide R).frozen 5
  have Rf6 := (unhide R).frozen 6
  have Rf7 := (unhide R).frozen 7
  have Re0 := (unhide R).cell 0 rfl
  have Re1 := (unhide R).cell 1 rfl
  have Re2 := (unhide R).cell 2 rfl
  have Re3 := (unhide R).cell 3 rfl
  have Re4 := (unhide R).cell 4 rfl
  have Re5 := (unhide R).cell 5 rfl
  have Re6 := (unhide R).cell 6 rfl
  have Re7 := (unhide R).cell 7 rfl
  have F := hide (fill8 (unhide R) (.int .i64 6) (.string e.box) (.string e.dst) (.slice a e.set.length c) (.int .i64 0) (.int .i64 0) (.int .i64 0) (.string ⟨#[]⟩))
  obtain ⟨U, hU⟩ : ∃ U, U = ((((((((we2.setCell ⟨we1.heap.size, 0, none⟩ (.int .i64 6)).setCell ⟨we1.heap.size, 1, none⟩ (.string e.box)).setCell ⟨we1.heap.size, 2, none⟩ (.string e.dst)).setCell ⟨we1.heap.size, 3, none⟩ (.slice a e.set.length c)).setCell ⟨we1.heap.size, 4, none⟩ (.int .i64 0)).setCell ⟨we1.heap.size, 5, none⟩ (.int .i64 0)).setCell ⟨we1.heap.size, 6, none⟩ (.int .i64 0)).setCell ⟨we1.heap.size, 7, none⟩ (.string ⟨#[]⟩)) := ⟨_, rfl⟩
  have F9 := unhide F
  rw [← hU] at F9
  have EU := hU.symm
  clear F hU
  have v0 := F9.obj.cell 0 rfl
  have v1 := F9.obj.cell 1 rfl
  have v2 := F9.obj.cell 2 rfl
  have v3 := F9.obj.cell 3 rfl
  have v4 := F9.obj.cell 4 rfl
  have v5 := F9.obj.cell 5 rfl
  have v6 := F9.obj.cell 6 rfl
  have v7 := F9.obj.cell 7 rfl
  have F := hide F9
  clear F9
  go_wp2_with (refine bodyPost_ret (by simp [results, Tryd.results90, go_sem, v0, v1, v2, v3, v4, v5, v6, v7]; try rfl) rfl ?_)
  clear EU
  have F := unhide F
  exact F.below loR (unhide BB)
set_option maxHeartbeats 4000000 in
set_option maxRecDepth 100000 in
theorem deed7 (e : Ed) (a : Option Addr) (c : Nat) (w : World) (hk : e.kind = 7) :
    Calls Tryd.prog 29 #[.agg #[.int .i64 e.kind, .string e.box, .string e.dst, .slice a e.set.length c, .int .i64 e.how, .int .i64 e.bits, .int .i64 e.since, .string e.text]] w fun x w' => x = .returned (.iface 73 (.agg #[.string e.box, .slice a e.set.length c, .string e.dst])) ∧ Below w.heap.size w w' := by
  rw [hk]
  have BB := hide (Below.refl w.heap.size w)
  obtain ⟨wd1, hA⟩ : ∃ X, X = w.alloc (.cells ([.int .i64 7, .string e.box, .string e.dst, .slice a e.set.length c, .int .i64 e.how, .int .i64 e.bits, .int .i64 e.since, .string e.text] : List Value).toArray 30) := ⟨_, rfl⟩
  have Ax : HasObj wd1 w.heap.size 30 [.int .i64 7, .string e.box, .string e.dst, .slice a e.set.length c, .int .i64 e.how, .int .i64 e.bits, .int .i64 e.since, .string e.text] := by rw [hA]; exact HasObj.new _ _ _
  have hbn : Below w.heap.size w wd1 := by rw [hA]; exact (Below.refl _ _).alloc (Nat.le_refl _) _
  have loA : w.heap.size ≤ w.heap.size := (unhide BB).size
  have EA := hA.symm
  clear hA
  have sz1 := hide (hbn.size)
  have BB_ := hide (below_y (unhide BB) hbn)
  clear BB
  have BB := BB_
  clear BB_
  clear hbn
  have A := hide Ax
  clear Ax
  have Ac0_1 := (unhide A).cell 0 rfl
  have Ac1_1 := (unhide A).cell 1 rfl
  have Ac2_1 := (unhide A).cell 2 rfl
  have Ac3_1 := (unhide A).cell 3 rfl
  have Ac4_1 := (unhide A).cell 4 rfl
  have Ac5_1 := (unhide A).cell 5 rfl
  have Ac6_1 := (unhide A).cell 6 rfl
  have Ac7_1 := (unhide A).cell 7 rfl
  go_enter Tryd.func29, Tryd.ntmps29
  go_wp2
  go_ret
  exact ⟨rfl, unhide BB⟩
set_option maxHeartbeats 4000000 in
set_option maxRecDepth 100000 in
theorem edit7 (e : Ed) (a : Option Addr) (c : Nat) (w : World) :
    Calls Tryd.prog 92 #[.agg #[.string e.box, .slice a e.set.length c, .string e.dst]] w fun x w' => x = .returned (.agg #[.int .i64 7, .string e.box, .string e.dst, .slice a e.set.length c, .int .i64 0, .int .i64 0, .int .i64 0, .string ⟨#[]⟩]) ∧ Below w.heap.size w w' := by
  have BB := hide (Below.refl w.heap.size w)
  obtain ⟨we1, hA⟩ : ∃ X, X = w.alloc (.cells ([.string e.box, .slice a e.set.length c, .string e.dst] : List Value).toArray 73) := ⟨_, rfl⟩
  have Ax : HasObj we1 w.heap.size 73 [.string e.box, .slice a e.set.length c, .string e.dst] := by rw [hA]; exact HasObj.new _ _ _
  have hbn : Below w.heap.size w we1 := by rw [hA]; exact (Below.refl _ _).alloc (Nat.le_refl _) _
  have loA : w.heap.size ≤ w.heap.size := (unhide BB).size
  have EA := hA.symm
  clear hA
  have sz1 := hide (hbn.size)
  have BB_ := hide (below_y (unhide BB) hbn)
  clear BB
  have BB := BB_
  clear BB_
  clear hbn
  have A := hide Ax
  clear Ax
  obtain ⟨we2, hR⟩ : ∃ X, X = we1.alloc (.cells ([.int .i64 0, .string ⟨#[]⟩, .string ⟨#[]⟩, .slice none 0 0, .int .i64 0, .int .i64 0, .int .i64 0, .string ⟨#[]⟩] : List Value).toArray 30) := ⟨_, rfl⟩
  have Rx : HasObj we2 we1.heap.size 30 [.int .i64 0, .string ⟨#[]⟩, .string ⟨#[]⟩, .slice none 0 0, .int .i64 0, .int .i64 0, .int .i64 0, .string ⟨#[]⟩] := by rw [hR]; exact HasObj.new _ _ _
  have hbn : Below we1.heap.size we1 we2 := by rw [hR]; exact (Below.refl _ _).alloc (Nat.le_refl _) _
  have neAR : w.heap.size ≠ we1.heap.size := Nat.ne_of_lt (unhide A).lt
  have loR : w.heap.size ≤ we1.heap.size := (unhide BB).size
  have ER := hR.symm
  clear hR
  have A_ := hide ((unhide A).ups hbn)
  clear A
  have A := A_
  clear A_
  have sz2 := hide (hbn.size)
  have BB_ := hide (below_y (unhide BB) hbn)
  clear BB
  have BB := BB_
  clear BB_
  clear hbn
  have R := hide Rx
  clear Rx
  have Ac0_1 := (unhide A).cell 0 rfl
  have Ac1_1 := (unhide A).cell 1 rfl
  have Ac2_1 := (unhide A).cell 2 rfl
  go_enter Tryd.func92, Tryd.ntmps92
  have Rf0 := (unhide R).frozen 0
  have Rf1 := (unhide R).frozen 1
  have Rf2 := (unhide R).frozen 2
  have Rf3 := (unhide R).frozen 3
  have Rf4 := (unhide R).frozen 4
  have Rf5 := (unhide R).frozen 5
  have Rf6 := (unhide R).frozen 6
  have Rf7 := (unhide R).frozen 7
  have Re0 := (unhide R).cell 0 rfl
  have Re1 := (unhide R).cell 1 rfl
  have Re2 := (unhide R).cell 2 rfl
  have Re3 := (unhide R).cell 3 rfl
  have Re4 := (unhide R).cell 4 rfl
  have Re5 := (unhide R).cell 5 rfl
  have Re6 := (unhide R).cell 6 rfl
  have Re7 := (unhide R).cell 7 rfl
  have F := hide (fill8 (unhide R) (.int .i64 7) (.string e.box) (.string e.dst) (.slice a e.set.length c) (.int .i64 0) (.int .i64 0) (.int .i64 0) (.string ⟨#[]⟩))
  obtain ⟨U, hU⟩ : ∃ U, U = ((((((((we2.setCell ⟨we1.heap.size, 0, none⟩ (.int .i64 7)).setCell ⟨we1.heap.size, 1, none⟩ (.string e.box)).setCell ⟨we1.heap.size, 2, none⟩ (.string e.dst)).setCell ⟨we1.heap.size, 3, none⟩ (.slice a e.set.length c)).setCell ⟨we1.heap.size, 4, none⟩ (.int .i64 0)).setCell ⟨we1.heap.size, 5, none⟩ (.int .i64 0)).setCell ⟨we1.heap.size, 6, none⟩ (.int .i64 0)).setCell ⟨we1.heap.size, 7, none⟩ (.string ⟨#[]⟩)) := ⟨_, rfl⟩
  have F9 := unhide F
  rw [← hU] at F9
  have EU := hU.symm
  clear F hU
  have v0 := F9.obj.cell 0 rfl
  have v1 := F9.obj.cell 1 rfl
  have v2 := F9.obj.cell 2 rfl
  have v3 := F9.obj.cell 3 rfl
  have v4 := F9.obj.cell 4 rfl
  have v5 := F9.obj.cell 5 rfl
  have v6 := F9.obj.cell 6 rfl
  have v7 := F9.obj.cell 7 rfl
  have F := hide F9
  clear F9
  go_wp2_with (refine bodyPost_ret (by simp [results, Tryd.results92, go_sem, v0, v1, v2, v3, v4, v5, v6, v7]; try rfl) rfl ?_)
  clear EU
  have F := unhide F
  exact F.below loR (unhide BB)
set_option maxHeartbeats 4000000 in
set_option maxRecDepth 100000 in
theorem deed8 (e : Ed) (a : Option Addr) (c : Nat) (w : World) (hk : e.kind = 8) :
    Calls Tryd.prog 29 #[.agg #[.int .i64 e.kind, .string e.box, .string e.dst, .slice a e.set.length c, .int .i64 e.how, .int .i64 e.bits, .int .i64 e.since, .string e.text]] w fun x w' => x = .returned (.iface 75 (.agg #[.string e.box, .int .i64 e.since])) ∧ Below w.heap.size w w' := by
  rw [hk]
  have BB := hide (Below.refl w.heap.size w)
  obtain ⟨wd1, hA⟩ : ∃ X, X = w.alloc (.cells ([.int .i64 8, .string e.box, .string e.dst, .slice a e.set.length c, .int .i64 e.how, .int .i64 e.bits, .int .i64 e.since, .string e.text] : List Value).toArray 30) := ⟨_, rfl⟩
  have Ax : HasObj wd1 w.heap.size 30 [.int .i64 8, .string e.box, .string e.dst, .slice a e.set.length c, .int .i64 e.how, .int .i64 e.bits, .int .i64 e.since, .string e.text] := by rw [hA]; exact HasObj.new _ _ _
  have hbn : Below w.heap.size w wd1 := by rw [hA]; exact (Below.refl _ _).alloc (Nat.le_refl _) _
  have loA : w.heap.size ≤ w.heap.size := (unhide BB).size
  have EA := hA.symm
  clear hA
  have sz1 := hide (hbn.size)
  have BB_ := hide (below_y (unhide BB) hbn)
  clear BB
  have BB := BB_
  clear BB_
  clear hbn
  have A := hide Ax
  clear Ax
  have Ac0_1 := (unhide A).cell 0 rfl
  have Ac1_1 := (unhide A).cell 1 rfl
  have Ac2_1 := (unhide A).cell 2 rfl
  have Ac3_1 := (unhide A).cell 3 rfl
  have Ac4_1 := (unhide A).cell 4 rfl
  have Ac5_1 := (unhide A).cell 5 rfl
  have Ac6_1 := (unhide A).cell 6 rfl
  have Ac7_1 := (unhide A).cell 7 rfl
  go_enter Tryd.func29, Tryd.ntmps29
  go_wp2
  go_ret
  exact ⟨rfl, unhide BB⟩
set_option maxHeartbeats 4000000 in
set_option maxRecDepth 100000 in
theorem edit8 (e : Ed) (a : Option Addr) (c : Nat) (w : World) :
    Calls Tryd.prog 94 #[.agg #[.string e.box, .int .i64 e.since]] w fun x w' => x = .returned (.agg #[.int .i64 8, .string e.box, .string ⟨#[]⟩, .slice none 0 0, .int .i64 0, .int .i64 0, .int .i64 e.since, .string ⟨#[]⟩]) ∧ Below w.heap.size w w' := by
  have BB := hide (Below.refl w.heap.size w)
  obtain ⟨we1, hA⟩ : ∃ X, X = w.alloc (.cells ([.string e.box, .int .i64 e.since] : List Value).toArray 75) := ⟨_, rfl⟩
  have Ax : HasObj we1 w.heap.size 75 [.string e.box, .int .i64 e.since] := by rw [hA]; exact HasObj.new _ _ _
  have hbn : Below w.heap.size w we1 := by rw [hA]; exact (Below.refl _ _).alloc (Nat.le_refl _) _
  have loA : w.heap.size ≤ w.heap.size := (unhide BB).size
  have EA := hA.symm
  clear hA
  have sz1 := hide (hbn.size)
  have BB_ := hide (below_y (unhide BB) hbn)
  clear BB
  have BB := BB_
  clear BB_
  clear hbn
  have A := hide Ax
  clear Ax
  obtain ⟨we2, hR⟩ : ∃ X, X = we1.alloc (.cells ([.int .i64 0, .string ⟨#[]⟩, .string ⟨#[]⟩, .slice none 0 0, .int .i64 0, .int .i64 0, .int .i64 0, .string ⟨#[]⟩] : List Value).toArray 30) := ⟨_, rfl⟩
  have Rx : HasObj we2 we1.heap.size 30 [.int .i64 0, .string ⟨#[]⟩, .string ⟨#[]⟩, .slice none 0 0, .int .i64 0, .int .i64 0, .int .i64 0, .string ⟨#[]⟩] := by rw [hR]; exact HasObj.new _ _ _
  have hbn : Below we1.heap.size we1 we2 := by rw [hR]; exact (Below.refl _ _).alloc (Nat.le_refl _) _
  have neAR : w.heap.size ≠ we1.heap.size := Nat.ne_of_lt (unhide A).lt
  have loR : w.heap.size ≤ we1.heap.size := (unhide BB).size
  have ER := hR.symm
  clear hR
  have A_ := hide ((unhide A).ups hbn)
  clear A
  have A := A_
  clear A_
  have sz2 := hide (hbn.size)
  have BB_ := hide (below_y (unhide BB) hbn)
  clear BB
  have BB := BB_
  clear BB_
  clear hbn
  have R := hide Rx
  clear Rx
  have Ac0_1 := (unhide A).cell 0 rfl
  have Ac1_1 := (unhide A).cell 1 rfl
  go_enter Tryd.func94, Tryd.ntmps94
  have Rf0 := (unhide R).frozen 0
  have Rf1 := (unhide R).frozen 1
  have Rf2 := (unhide R).frozen 2
  have Rf3 := (unhide R).frozen 3
  have Rf4 := (unhide R).frozen 4
  have Rf5 := (unhide R).frozen 5
  have Rf6 := (unhide R).frozen 6
  have Rf7 := (unhide R).frozen 7
  have Re0 := (unhide R).cell 0 rfl
  have Re1 := (unhide R).cell 1 rfl
  have Re2 := (unhide R).cell 2 rfl
  have Re3 := (unhide R).cell 3 rfl
  have Re4 := (unhide R).cell 4 rfl
  have Re5 := (unhide R).cell 5 rfl
  have Re6 := (unhide R).cell 6 rfl
  have Re7 := (unhide R).cell 7 rfl
  have F := hide (fill8 (unhide R) (.int .i64 8) (.string e.box) (.string ⟨#[]⟩) (.slice none 0 0) (.int .i64 0) (.int .i64 0) (.int .i64 e.since) (.string ⟨#[]⟩))
  obtain ⟨U, hU⟩ : ∃ U, U = ((((((((we2.setCell ⟨we1.heap.size, 0, none⟩ (.int .i64 8)).setCell ⟨we1.heap.size, 1, none⟩ (.string e.box)).setCell ⟨we1.heap.size, 2, none⟩ (.string ⟨#[]⟩)).setCell ⟨we1.heap.size, 3, none⟩ (.slice none 0 0)).setCell ⟨we1.heap.size, 4, none⟩ (.int .i64 0)).setCell ⟨we1.heap.size, 5, none⟩ (.int .i64 0)).setCell ⟨we1.heap.size, 6, none⟩ (.int .i64 e.since)).setCell ⟨we1.heap.size, 7, none⟩ (.string ⟨#[]⟩)) := ⟨_, rfl⟩
  have F9 := unhide F
  rw [← hU] at F9
  have EU := hU.symm
  clear F hU
  have v0 := F9.obj.cell 0 rfl
  have v1 := F9.obj.cell 1 rfl
  have v2 := F9.obj.cell 2 rfl
  have v3 := F9.obj.cell 3 rfl
  have v4 := F9.obj.cell 4 rfl
  have v5 := F9.obj.cell 5 rfl
  have v6 := F9.obj.cell 6 rfl
  have v7 := F9.obj.cell 7 rfl
  have F := hide F9
  clear F9
  go_wp2_with (refine bodyPost_ret (by simp [results, Tryd.results94, go_sem, v0, v1, v2, v3, v4, v5, v6, v7]; try rfl) rfl ?_)
  clear EU
  have F := unhide F
  exact F.below loR (unhide BB)
set_option maxHeartbeats 4000000 in
set_option maxRecDepth 100000 in
theorem deed0 (e : Ed) (a : Option Addr) (c : Nat) (w : World) (hk : inI e.kind 1 8 = false) :
    Calls Tryd.prog 29 #[.agg #[.int .i64 e.kind, .string e.box, .string e.dst, .slice a e.set.length c, .int .i64 e.how, .int .i64 e.bits, .int .i64 e.since, .string e.text]] w fun x w' => x = .returned .nilIface ∧ Below w.heap.size w w' := by
  have hn : ∀ k : Int, 1 ≤ k → k ≤ 8 → ¬ e.kind = k := fun k h1 h2 h => by rw [h] at hk; rw [inI_iff.2 ⟨h1, h2⟩] at hk; cases hk
  have n1 := hn 1 (by decide) (by decide)
  have n2 := hn 2 (by decide) (by decide)
  have n3 := hn 3 (by decide) (by decide)
  have n4 := hn 4 (by decide) (by decide)
  have n5 := hn 5 (by decide) (by decide)
  have n6 := hn 6 (by decide) (by decide)
  have n7 := hn 7 (by decide) (by decide)
  have n8 := hn 8 (by decide) (by decide)
  clear hn hk
  have BB := hide (Below.refl w.heap.size w)
  obtain ⟨wd1, hA⟩ : ∃ X, X = w.alloc (.cells ([.int .i64 e.kind, .string e.box, .string e.dst, .slice a e.set.length c, .int .i64 e.how, .int .i64 e.bits, .int .i64 e.since, .string e.text] : List Value).toArray 30) := ⟨_, rfl⟩
  have Ax : HasObj wd1 w.heap.size 30 [.int .i64 e.kind, .string e.box, .string e.dst, .slice a e.set.length c, .int .i64 e.how, .int .i64 e.bits, .int .i64 e.since, .string e.text] := by rw [hA]; exact HasObj.new _ _ _
  have hbn : Below w.heap.size w wd1 := by rw [hA]; exact (Below.refl _ _).alloc (Nat.le_refl _) _
  have loA : w.heap.size ≤ w.heap.size := (unhide BB).size
  have EA := hA.symm
  clear hA
  have sz1 := hide (hbn.size)
  have BB_ := hide (below_y (unhide BB) hbn)
  clear BB
  have BB := BB_
  clear BB_
  clear hbn
  have A := hide Ax
  clear Ax
  have Ac0_1 := (unhide A).cell 0 rfl
  have Ac1_1 := (unhide A).cell 1 rfl
  have Ac2_1 := (unhide A).cell 2 rfl
  have Ac3_1 := (unhide A).cell 3 rfl
  have Ac4_1 := (unhide A).cell 4 rfl
  have Ac5_1 := (unhide A).cell 5 rfl
  have Ac6_1 := (unhide A).cell 6 rfl
  have Ac7_1 := (unhide A).cell 7 rfl
  go_enter Tryd.func29, Tryd.ntmps29
  go_wp2
  go_ret
  exact ⟨rfl, unhide BB⟩
end Go.Proofs.YtecognggnbopaacDoor
