/- A store of one box that has nothing in it: StoreNew, the specification's and the program's, and the walk of FnExactStoreNew. Made by gen_storenew.py. -/
import Derived.Test.YtmedhmgihfenhabBoxI
import Derived.Test.YtmedhmgihfenhabAddMailS
import Derived.Test.YtmedhmgihfenhabBoxA
import Derived.Test.YtmedhmgihfenhabMarks
import Derived.Test.YtmedhmgihfenhabRegA
import Derived.BigQuiet
namespace Go.Proofs.Ytmedhmgihfenhab
open Go.RowKit
open Plain
set_option linter.unusedVariables false
set_option linter.unusedSimpArgs false

namespace Plain
theorem new_inbox : newV ⟨#[105, 110, 98, 111, 120]⟩ 1 = (newBox ⟨#[105, 110, 98, 111, 120]⟩ 1, true) := if_pos (by decide)
end Plain
theorem own_none (B : Nat) (W : World) : OwnBx B W (.slice none 0 0) (.slice none 0 0) (newBox ⟨#[105, 110, 98, 111, 120]⟩ 1) := ⟨World.ownsRow_nil _ _ _ _, World.ownsRow_nil _ _ _ _⟩
theorem fill2 {W : World} {r : Nat} {t : TypeId} {v0 v1 : Value} (h : HasObj W r t [v0, v1]) (u0 u1 : Value) :
    Filled W r t [u0, u1] ((W.setCell ⟨r, 0, none⟩ u0).setCell ⟨r, 1, none⟩ u1) := by
  have h1 := h.set 0 u0
  have h2 := h1.set 1 u1
  refine ⟨h2, fun hne hb => ?_, fun hte hr => ?_, fun hn hb => ?_, by simp⟩
  · exact ((hb.other (j := 0) hne u0).other (j := 1) hne u1)
  · exact (h1.row (j := 1) hte (h.row (j := 0) hte hr u0) u1)
  · exact ((hb.setCell (p := ⟨r, 0, none⟩) hn u0).setCell (p := ⟨r, 1, none⟩) hn u1)
set_option maxHeartbeats 4000000 in
set_option maxRecDepth 100000 in
theorem spec_StoreNew_one (w : World) : Calls Try.prog 4 #[] w fun e w' => ∃ g, e = .returned (.agg #[.slice (some ⟨g, 0, none⟩) 1 1, .int .i64 2]) ∧ w.heap.size ≤ g ∧ HasObj w' g 32 [.string ⟨#[105, 110, 98, 111, 120]⟩, .int .i64 1, .int .i64 1, .int .i64 1, .slice none 0 0, .slice none 0 0, .int .i64 0] ∧ Below w.heap.size w w' := by
  have BB := hide (Below.refl w.heap.size w)
  obtain ⟨ws1, hR⟩ : ∃ X, X = w.alloc (.cells ([.slice none 0 0, .int .i64 0] : List Value).toArray 24) := ⟨_, rfl⟩
  have Rx : HasObj ws1 w.heap.size 24 [.slice none 0 0, .int .i64 0] := by rw [hR]; exact HasObj.new _ _ _
  have hbn : Below w.heap.size w ws1 := by rw [hR]; exact (Below.refl _ _).alloc (Nat.le_refl _) _
  have loR : w.heap.size ≤ w.heap.size := (unhide BB).size
  have ER := hR.symm
  clear hR
  have sz1 := hide (hbn.size)
  have BB_ := hide (below_y (unhide BB) hbn)
  clear BB
  have BB := BB_
  clear BB_
  clear hbn
  have R := hide Rx
  clear Rx
  go_enter Try.func4, Try.ntmps4
  go_wp2_with fail
  clear ER
  refine (spec_BoxNew_any ⟨#[105, 110, 98, 111, 120]⟩ 1 _ (by decide)).mono ?_
  rintro e ws2 ⟨rfl, hb⟩
  rw [new_inbox]
  have R_ := hide ((unhide R).ups hb)
  clear R
  have R := R_
  clear R_
  have sz2 := hide (hb.size)
  have BB_ := hide (below_y (unhide BB) hb)
  clear BB
  have BB := BB_
  clear BB_
  clear hb
  obtain ⟨b0, hb0⟩ : ∃ b0, b0 = newBox ⟨#[105, 110, 98, 111, 120]⟩ 1 := ⟨_, rfl⟩
  rw [← hb0]
  have HB0 := hide hb0
  clear hb0
  obtain ⟨ws3, hT⟩ : ∃ X, X = ws2.alloc (.cells ([.string b0.name, .int .i64 b0.valid, .int .i64 b0.next, .int .i64 b0.mod, .slice none 0 0, .slice none 0 0, .int .i64 b0.hor] : List Value).toArray 32) := ⟨_, rfl⟩
  have Tx : HasObj ws3 ws2.heap.size 32 [.string b0.name, .int .i64 b0.valid, .int .i64 b0.next, .int .i64 b0.mod, .slice none 0 0, .slice none 0 0, .int .i64 b0.hor] := by rw [hT]; exact HasObj.new _ _ _
  have hbn : Below ws2.heap.size ws2 ws3 := by rw [hT]; exact (Below.refl _ _).alloc (Nat.le_refl _) _
  have neRT : w.heap.size ≠ ws2.heap.size := Nat.ne_of_lt (unhide R).lt
  have loT : w.heap.size ≤ ws2.heap.size := (unhide BB).size
  have ET := hT.symm
  clear hT
  have R_ := hide ((unhide R).ups hbn)
  clear R
  have R := R_
  clear R_
  have sz3 := hide (hbn.size)
  have BB_ := hide (below_y (unhide BB) hbn)
  clear BB
  have BB := BB_
  clear BB_
  clear hbn
  have T := hide Tx
  clear Tx
  have Tc0_1 := (unhide T).cell 0 rfl
  have Tc1_1 := (unhide T).cell 1 rfl
  have Tc2_1 := (unhide T).cell 2 rfl
  have Tc3_1 := (unhide T).cell 3 rfl
  have Tc4_1 := (unhide T).cell 4 rfl
  have Tc5_1 := (unhide T).cell 5 rfl
  have Tc6_1 := (unhide T).cell 6 rfl
  obtain ⟨ws4, hK⟩ : ∃ X, X = ws3.alloc (.cells ([.string b0.name, .int .i64 b0.valid, .int .i64 b0.next, .int .i64 b0.mod, .slice none 0 0, .slice none 0 0, .int .i64 b0.hor] : List Value).toArray 32) := ⟨_, rfl⟩
  have Kx : HasObj ws4 ws3.heap.size 32 [.string b0.name, .int .i64 b0.valid, .int .i64 b0.next, .int .i64 b0.mod, .slice none 0 0, .slice none 0 0, .int .i64 b0.hor] := by rw [hK]; exact HasObj.new _ _ _
  have hbn : Below ws3.heap.size ws3 ws4 := by rw [hK]; exact (Below.refl _ _).alloc (Nat.le_refl _) _
  have neRK : w.heap.size ≠ ws3.heap.size := Nat.ne_of_lt (unhide R).lt
  have neTK : ws2.heap.size ≠ ws3.heap.size := Nat.ne_of_lt (unhide T).lt
  have loK : w.heap.size ≤ ws3.heap.size := (unhide BB).size
  have EK := hK.symm
  clear hK
  have R_ := hide ((unhide R).ups hbn)
  clear R
  have R := R_
  clear R_
  have T_ := hide ((unhide T).ups hbn)
  clear T
  have T := T_
  clear T_
  have sz4 := hide (hbn.size)
  have BB_ := hide (below_y (unhide BB) hbn)
  clear BB
  have BB := BB_
  clear BB_
  clear hbn
  have K := hide Kx
  clear Kx
  have Rf0 := (unhide R).frozen 0
  have Rf1 := (unhide R).frozen 1
  have Re0 := (unhide R).cell 0 rfl
  have Re1 := (unhide R).cell 1 rfl
  have F := hide (fill2 (unhide R) (.slice (some ⟨ws3.heap.size, 0, none⟩) 1 1) (.int .i64 2))
  obtain ⟨U, hU⟩ : ∃ U, U = ((ws4.setCell ⟨w.heap.size, 0, none⟩ (.slice (some ⟨ws3.heap.size, 0, none⟩) 1 1)).setCell ⟨w.heap.size, 1, none⟩ (.int .i64 2)) := ⟨_, rfl⟩
  have F9 := unhide F
  rw [← hU] at F9
  have EU := hU.symm
  clear F hU
  have v0 := F9.obj.cell 0 rfl
  have v1 := F9.obj.cell 1 rfl
  have F := hide F9
  clear F9
  go_wp2_with (refine bodyPost_ret (by simp [results, Try.results4, go_sem, v0, v1]; try rfl) rfl ?_)
  clear EU
  have F := unhide F
  have K9 := F.other neRK.symm (unhide K)
  have e9 := unhide HB0
  subst e9
  exact ⟨_, rfl, loK, K9, F.below loR (unhide BB)⟩
set_option maxHeartbeats 4000000 in
set_option maxRecDepth 100000 in
theorem impl_StoreNew_one (w : World) : Calls Try.prog 5 #[] w fun e w' => ∃ g, e = .returned (.agg #[.slice (some ⟨g, 0, none⟩) 1 1, .int .i64 2]) ∧ w.heap.size ≤ g ∧ HasObj w' g 32 [.string ⟨#[105, 110, 98, 111, 120]⟩, .int .i64 1, .int .i64 1, .int .i64 1, .slice none 0 0, .slice none 0 0, .int .i64 0] ∧ Below w.heap.size w w' := by
  have BB := hide (Below.refl w.heap.size w)
  obtain ⟨wi1, hR⟩ : ∃ X, X = w.alloc (.cells ([.slice none 0 0, .int .i64 0] : List Value).toArray 24) := ⟨_, rfl⟩
  have Rx : HasObj wi1 w.heap.size 24 [.slice none 0 0, .int .i64 0] := by rw [hR]; exact HasObj.new _ _ _
  have hbn : Below w.heap.size w wi1 := by rw [hR]; exact (Below.refl _ _).alloc (Nat.le_refl _) _
  have loR : w.heap.size ≤ w.heap.size := (unhide BB).size
  have ER := hR.symm
  clear hR
  have sz1 := hide (hbn.size)
  have BB_ := hide (below_y (unhide BB) hbn)
  clear BB
  have BB := BB_
  clear BB_
  clear hbn
  have R := hide Rx
  clear Rx
  go_enter Try.func5, Try.ntmps5
  go_wp2_with fail
  clear ER
  refine (impl_BoxNew_any ⟨#[105, 110, 98, 111, 120]⟩ 1 _ (by decide)).mono ?_
  rintro e wi2 ⟨rfl, hb⟩
  rw [new_inbox]
  have R_ := hide ((unhide R).ups hb)
  clear R
  have R := R_
  clear R_
  have sz2 := hide (hb.size)
  have BB_ := hide (below_y (unhide BB) hb)
  clear BB
  have BB := BB_
  clear BB_
  clear hb
  obtain ⟨b0, hb0⟩ : ∃ b0, b0 = newBox ⟨#[105, 110, 98, 111, 120]⟩ 1 := ⟨_, rfl⟩
  rw [← hb0]
  have HB0 := hide hb0
  clear hb0
  obtain ⟨wi3, hT⟩ : ∃ X, X = wi2.alloc (.cells ([.string b0.name, .int .i64 b0.valid, .int .i64 b0.next, .int .i64 b0.mod, .slice none 0 0, .slice none 0 0, .int .i64 b0.hor] : List Value).toArray 32) := ⟨_, rfl⟩
  have Tx : HasObj wi3 wi2.heap.size 32 [.string b0.name, .int .i64 b0.valid, .int .i64 b0.next, .int .i64 b0.mod, .slice none 0 0, .slice none 0 0, .int .i64 b0.hor] := by rw [hT]; exact HasObj.new _ _ _
  have hbn : Below wi2.heap.size wi2 wi3 := by rw [hT]; exact (Below.refl _ _).alloc (Nat.le_refl _) _
  have neRT : w.heap.size ≠ wi2.heap.size := Nat.ne_of_lt (unhide R).lt
  have loT : w.heap.size ≤ wi2.heap.size := (unhide BB).size
  have ET := hT.symm
  clear hT
  have R_ := hide ((unhide R).ups hbn)
  clear R
  have R := R_
  clear R_
  have sz3 := hide (hbn.size)
  have BB_ := hide (below_y (unhide BB) hbn)
  clear BB
  have BB := BB_
  clear BB_
  clear hbn
  have T := hide Tx
  clear Tx
  have Tc0_1 := (unhide T).cell 0 rfl
  have Tc1_1 := (unhide T).cell 1 rfl
  have Tc2_1 := (unhide T).cell 2 rfl
  have Tc3_1 := (unhide T).cell 3 rfl
  have Tc4_1 := (unhide T).cell 4 rfl
  have Tc5_1 := (unhide T).cell 5 rfl
  have Tc6_1 := (unhide T).cell 6 rfl
  obtain ⟨wi4, hK⟩ : ∃ X, X = wi3.alloc (.cells ([.string b0.name, .int .i64 b0.valid, .int .i64 b0.next, .int .i64 b0.mod, .slice none 0 0, .slice none 0 0, .int .i64 b0.hor] : List Value).toArray 32) := ⟨_, rfl⟩
  have Kx : HasObj wi4 wi3.heap.size 32 [.string b0.name, .int .i64 b0.valid, .int .i64 b0.next, .int .i64 b0.mod, .slice none 0 0, .slice none 0 0, .int .i64 b0.hor] := by rw [hK]; exact HasObj.new _ _ _
  have hbn : Below wi3.heap.size wi3 wi4 := by rw [hK]; exact (Below.refl _ _).alloc (Nat.le_refl _) _
  have neRK : w.heap.size ≠ wi3.heap.size := Nat.ne_of_lt (unhide R).lt
  have neTK : wi2.heap.size ≠ wi3.heap.size := Nat.ne_of_lt (unhide T).lt
  have loK : w.heap.size ≤ wi3.heap.size := (unhide BB).size
  have EK := hK.symm
  clear hK
  have R_ := hide ((unhide R).ups hbn)
  clear R
  have R := R_
  clear R_
  have T_ := hide ((unhide T).ups hbn)
  clear T
  have T := T_
  clear T_
  have sz4 := hide (hbn.size)
  have BB_ := hide (below_y (unhide BB) hbn)
  clear BB
  have BB := BB_
  clear BB_
  clear hbn
  have K := hide Kx
  clear Kx
  have Rf0 := (unhide R).frozen 0
  have Rf1 := (unhide R).frozen 1
  have Re0 := (unhide R).cell 0 rfl
  have Re1 := (unhide R).cell 1 rfl
  have F := hide (fill2 (unhide R) (.slice (some ⟨wi3.heap.size, 0, none⟩) 1 1) (.int .i64 2))
  obtain ⟨U, hU⟩ : ∃ U, U = ((wi4.setCell ⟨w.heap.size, 0, none⟩ (.slice (some ⟨wi3.heap.size, 0, none⟩) 1 1)).setCell ⟨w.heap.size, 1, none⟩ (.int .i64 2)) := ⟨_, rfl⟩
  have F9 := unhide F
  rw [← hU] at F9
  have EU := hU.symm
  clear F hU
  have v0 := F9.obj.cell 0 rfl
  have v1 := F9.obj.cell 1 rfl
  have F := hide F9
  clear F9
  go_wp2_with (refine bodyPost_ret (by simp [results, Try.results5, go_sem, v0, v1]; try rfl) rfl ?_)
  clear EU
  have F := unhide F
  have K9 := F.other neRK.symm (unhide K)
  have e9 := unhide HB0
  subst e9
  exact ⟨_, rfl, loK, K9, F.below loR (unhide BB)⟩
set_option maxHeartbeats 4000000 in
set_option maxRecDepth 100000 in
theorem eqBoxS_one (g1 g2 : Nat) (w : World) (h1 : HasObj w g1 32 [.string ⟨#[105, 110, 98, 111, 120]⟩, .int .i64 1, .int .i64 1, .int .i64 1, .slice none 0 0, .slice none 0 0, .int .i64 0]) (h2 : HasObj w g2 32 [.string ⟨#[105, 110, 98, 111, 120]⟩, .int .i64 1, .int .i64 1, .int .i64 1, .slice none 0 0, .slice none 0 0, .int .i64 0]) :
    Calls Try.prog 11 #[.slice (some ⟨g1, 0, none⟩) 1 1, .slice (some ⟨g2, 0, none⟩) 1 1] w fun e w' => e = .returned (.bool true) ∧ Below w.heap.size w w' := by
  have K1 := hide h1
  have K2 := hide h2
  clear h1 h2
  have BB := hide (Below.refl w.heap.size w)
  go_enter Try.func11, Try.ntmps11
  go_wp2
  go_loopw [5] (fun i wr => ∃ k : Nat, k ≤ 1 ∧ i = .int .i64 k ∧ HasObj wr g1 32 [.string ⟨#[105, 110, 98, 111, 120]⟩, .int .i64 1, .int .i64 1, .int .i64 1, .slice none 0 0, .slice none 0 0, .int .i64 0] ∧ HasObj wr g2 32 [.string ⟨#[105, 110, 98, 111, 120]⟩, .int .i64 1, .int .i64 1, .int .i64 1, .slice none 0 0, .slice none 0 0, .int .i64 0] ∧ Below w.heap.size w wr) (fun i _ => 1 - (intOf i).toNat)
  case atStart => exact ⟨0, by omega, rfl, unhide K1, unhide K2, unhide BB⟩
  clear K1 K2 BB
  case round =>
    obtain ⟨k, hk, rfl, o1, o2, hbel⟩ := hrel
    obtain ⟨wo, hwo⟩ : ∃ wo, wo = wr := ⟨_, rfl⟩
    subst hwo
    have K1 := hide o1
    have K2 := hide o2
    have BB := hide hbel
    clear o1 o2 hbel
    have hk2 : k = 0 ∨ k = 1 := by omega
    rcases hk2 with rfl | rfl
    · simp only [show ((0 : Nat) : Int) = 0 from rfl]
      have K1c0_1 := (unhide K1).cell 0 rfl
      have K1c1_1 := (unhide K1).cell 1 rfl
      have K1c2_1 := (unhide K1).cell 2 rfl
      have K1c3_1 := (unhide K1).cell 3 rfl
      have K1c4_1 := (unhide K1).cell 4 rfl
      have K1c5_1 := (unhide K1).cell 5 rfl
      have K1c6_1 := (unhide K1).cell 6 rfl
      have K2c0_2 := (unhide K2).cell 0 rfl
      have K2c1_2 := (unhide K2).cell 1 rfl
      have K2c2_2 := (unhide K2).cell 2 rfl
      have K2c3_2 := (unhide K2).cell 3 rfl
      have K2c4_2 := (unhide K2).cell 4 rfl
      have K2c5_2 := (unhide K2).cell 5 rfl
      have K2c6_2 := (unhide K2).cell 6 rfl
      go_wp2
      refine wp_region_held_drew (S := fun w' => w'.cell? ⟨g1, 0, none⟩ = some (.string ⟨#[105, 110, 98, 111, 120]⟩) ∧ w'.cell? ⟨g1, 1, none⟩ = some (.int .i64 1) ∧ w'.cell? ⟨g1, 2, none⟩ = some (.int .i64 1) ∧ w'.cell? ⟨g1, 3, none⟩ = some (.int .i64 1) ∧ w'.cell? ⟨g1, 4, none⟩ = some (.slice none 0 0) ∧ w'.cell? ⟨g1, 5, none⟩ = some (.slice none 0 0) ∧ w'.cell? ⟨g1, 6, none⟩ = some (.int .i64 0) ∧ w'.cell? ⟨g2, 0, none⟩ = some (.string ⟨#[105, 110, 98, 111, 120]⟩) ∧ w'.cell? ⟨g2, 1, none⟩ = some (.int .i64 1) ∧ w'.cell? ⟨g2, 2, none⟩ = some (.int .i64 1) ∧ w'.cell? ⟨g2, 3, none⟩ = some (.int .i64 1) ∧ w'.cell? ⟨g2, 4, none⟩ = some (.slice none 0 0) ∧ w'.cell? ⟨g2, 5, none⟩ = some (.slice none 0 0) ∧ w'.cell? ⟨g2, 6, none⟩ = some (.int .i64 0)) (by kernel_rfl) (⟨(unhide K1).cell 0 rfl, (unhide K1).cell 1 rfl, (unhide K1).cell 2 rfl, (unhide K1).cell 3 rfl, (unhide K1).cell 4 rfl, (unhide K1).cell 5 rfl, (unhide K1).cell 6 rfl, (unhide K2).cell 0 rfl, (unhide K2).cell 1 rfl, (unhide K2).cell 2 rfl, (unhide K2).cell 3 rfl, (unhide K2).cell 4 rfl, (unhide K2).cell 5 rfl, (unhide K2).cell 6 rfl⟩) (fun hHeld => ?_)
      clear K1c0_1 K1c1_1 K1c2_1 K1c3_1 K1c4_1 K1c5_1 K1c6_1 K2c0_2 K2c1_2 K2c2_2 K2c3_2 K2c4_2 K2c5_2 K2c6_2
      have K1_ := hide ((unhide K1).drew)
      clear K1
      have K1 := K1_
      clear K1_
      have K2_ := hide ((unhide K2).drew)
      clear K2
      have K2 := K2_
      clear K2_
      have BB_ := hide ((unhide BB).drew)
      clear BB
      have BB := BB_
      clear BB_
      have sz1 : Hid (wo.heap.size ≤ wo.drew.heap.size) := Nat.le_refl _
      refine takeVal 0 (some 17) ?_ rfl (by kernel_rfl) (by kernel_rfl) (by kernel_rfl) rfl (fun _ _ _ h => h) (by rfl) (by assumption) ?_ ?_
      rotate_left
      · (intro w hSw; (try dsimp only at hSw); go_simp <;> with_reducible rfl)
      simp only [Act.put, List.setIfInBounds_toArray, List.set_cons_zero, List.set_cons_succ]
      refine takeVal 1 (some 18) ?_ rfl (by kernel_rfl) (by kernel_rfl) (by kernel_rfl) rfl (fun _ _ _ h => h) (by rfl) (by assumption) ?_ ?_
      rotate_left
      · (intro w hSw; (try dsimp only at hSw); go_simp <;> with_reducible rfl)
      simp only [Act.put, List.setIfInBounds_toArray, List.set_cons_zero, List.set_cons_succ]
      refine takeVal 2 (some 19) ?_ rfl (by kernel_rfl) (by kernel_rfl) (by kernel_rfl) rfl (fun _ _ _ h => h) (by rfl) (by assumption) ?_ ?_
      rotate_left
      · (intro w hSw; (try dsimp only at hSw); go_simp <;> with_reducible rfl)
      simp only [Act.put, List.setIfInBounds_toArray, List.set_cons_zero, List.set_cons_succ]
      refine takeVal 3 (some 20) ?_ rfl (by kernel_rfl) (by kernel_rfl) (by kernel_rfl) rfl (fun _ _ _ h => h) (by rfl) (by assumption) ?_ ?_
      rotate_left
      · (intro w hSw; (try dsimp only at hSw); go_simp <;> with_reducible rfl)
      simp only [Act.put, List.setIfInBounds_toArray, List.set_cons_zero, List.set_cons_succ]
      refine takeVal 4 (some 21) ?_ rfl (by kernel_rfl) (by kernel_rfl) (by kernel_rfl) rfl (fun _ _ _ h => h) (by rfl) (by assumption) ?_ ?_
      rotate_left
      · (intro w hSw; (try dsimp only at hSw); go_simp <;> with_reducible rfl)
      simp only [Act.put, List.setIfInBounds_toArray, List.set_cons_zero, List.set_cons_succ]
      refine takeVal 5 (some 22) ?_ rfl (by kernel_rfl) (by kernel_rfl) (by kernel_rfl) rfl (fun _ _ _ h => h) (by rfl) (by assumption) ?_ ?_
      rotate_left
      · (intro w hSw; (try dsimp only at hSw); go_simp <;> with_reducible rfl)
      simp only [Act.put, List.setIfInBounds_toArray, List.set_cons_zero, List.set_cons_succ]
      refine takeVal 6 (some 23) ?_ rfl (by kernel_rfl) (by kernel_rfl) (by kernel_rfl) rfl (fun _ _ _ h => h) (by rfl) (by assumption) ?_ ?_
      rotate_left
      · (intro w hSw; (try dsimp only at hSw); go_simp <;> with_reducible rfl)
      simp only [Act.put, List.setIfInBounds_toArray, List.set_cons_zero, List.set_cons_succ]
      refine takeVal 7 (some 24) ?_ rfl (by kernel_rfl) (by kernel_rfl) (by kernel_rfl) rfl (fun _ _ _ h => h) (by rfl) (by assumption) ?_ ?_
      rotate_left
      · (intro w hSw; (try dsimp only at hSw); go_simp <;> with_reducible rfl)
      simp only [Act.put, List.setIfInBounds_toArray, List.set_cons_zero, List.set_cons_succ]
      refine wpAnyH_ready (rs := [8]) (by kernel_rfl) (by simp) ?_
      refine AllReadyH.cons rfl (fun K hK => ?_) AllReadyH.nil
      go_simp
      refine (eqBox_same (newBox ⟨#[105, 110, 98, 111, 120]⟩ 1) _ _ _ _ 0 0 _ (Nat.zero_le _) (Nat.zero_le _) (own_none _ _) (own_none _ _)).mono ?_
      rintro e we1 ⟨rfl, hb⟩
      have K1_ := hide ((unhide K1).ups hb)
      clear K1
      have K1 := K1_
      clear K1_
      have K2_ := hide ((unhide K2).ups hb)
      clear K2
      have K2 := K2_
      clear K2_
      have sz2 := hide (hb.size)
      have BB_ := hide (below_y (unhide BB) hb)
      clear BB
      have BB := BB_
      clear BB_
      clear hb
      go_wp2_with fail
      refine hK.out _ _ (⟨(unhide K1).cell 0 rfl, (unhide K1).cell 1 rfl, (unhide K1).cell 2 rfl, (unhide K1).cell 3 rfl, (unhide K1).cell 4 rfl, (unhide K1).cell 5 rfl, (unhide K1).cell 6 rfl, (unhide K2).cell 0 rfl, (unhide K2).cell 1 rfl, (unhide K2).cell 2 rfl, (unhide K2).cell 3 rfl, (unhide K2).cell 4 rfl, (unhide K2).cell 5 rfl, (unhide K2).cell 6 rfl⟩) (fun hHeld2 => ?_)
      clear hK K hHeld
      have hHeld := hHeld2; clear hHeld2
      try simp only [Act.put, List.setIfInBounds_toArray, List.set_cons_zero, List.set_cons_succ]
      refine takeVal 9 (some 26) ?_ rfl (by kernel_rfl) (by kernel_rfl) (by kernel_rfl) rfl (fun _ _ _ h => h) (by rfl) (by assumption) ?_ ?_
      rotate_left
      · (intro w hSw; (try dsimp only at hSw); go_simp <;> with_reducible rfl)
      simp only [Act.put, List.setIfInBounds_toArray, List.set_cons_zero, List.set_cons_succ]
      refine wpAnyH_done (by kernel_rfl) ?_ _
      go_wp2
      go_roundw
      case rel => exact ⟨1, by omega, by go_num, unhide K1, unhide K2, unhide BB⟩
      case measure => simp [intOf]
    · simp only [show ((1 : Nat) : Int) = 1 from rfl]
      go_wp2
      go_ret
      exact ⟨rfl, unhide BB⟩
set_option maxHeartbeats 4000000 in
set_option maxRecDepth 100000 in
theorem eqStore_one (g1 g2 : Nat) (w : World) (h1 : HasObj w g1 32 [.string ⟨#[105, 110, 98, 111, 120]⟩, .int .i64 1, .int .i64 1, .int .i64 1, .slice none 0 0, .slice none 0 0, .int .i64 0]) (h2 : HasObj w g2 32 [.string ⟨#[105, 110, 98, 111, 120]⟩, .int .i64 1, .int .i64 1, .int .i64 1, .slice none 0 0, .slice none 0 0, .int .i64 0]) :
    Calls Try.prog 6 #[.agg #[.slice (some ⟨g1, 0, none⟩) 1 1, .int .i64 2], .agg #[.slice (some ⟨g2, 0, none⟩) 1 1, .int .i64 2]] w fun e w' => e = .returned (.bool true) ∧ Below w.heap.size w w' := by
  have K1 := hide h1
  have K2 := hide h2
  clear h1 h2
  have BB := hide (Below.refl w.heap.size w)
  obtain ⟨wq1, hA⟩ : ∃ X, X = w.alloc (.cells ([.slice (some ⟨g1, 0, none⟩) 1 1, .int .i64 2] : List Value).toArray 24) := ⟨_, rfl⟩
  have Ax : HasObj wq1 w.heap.size 24 [.slice (some ⟨g1, 0, none⟩) 1 1, .int .i64 2] := by rw [hA]; exact HasObj.new _ _ _
  have hbn : Below w.heap.size w wq1 := by rw [hA]; exact (Below.refl _ _).alloc (Nat.le_refl _) _
  have neK1A : g1 ≠ w.heap.size := Nat.ne_of_lt (unhide K1).lt
  have neK2A : g2 ≠ w.heap.size := Nat.ne_of_lt (unhide K2).lt
  have loA : w.heap.size ≤ w.heap.size := (unhide BB).size
  have EA := hA.symm
  clear hA
  have K1_ := hide ((unhide K1).ups hbn)
  clear K1
  have K1 := K1_
  clear K1_
  have K2_ := hide ((unhide K2).ups hbn)
  clear K2
  have K2 := K2_
  clear K2_
  have sz1 := hide (hbn.size)
  have BB_ := hide (below_y (unhide BB) hbn)
  clear BB
  have BB := BB_
  clear BB_
  clear hbn
  have A := hide Ax
  clear Ax
  obtain ⟨wq2, hC⟩ : ∃ X, X = wq1.alloc (.cells ([.slice (some ⟨g2, 0, none⟩) 1 1, .int .i64 2] : List Value).toArray 24) := ⟨_, rfl⟩
  have Cx : HasObj wq2 wq1.heap.size 24 [.slice (some ⟨g2, 0, none⟩) 1 1, .int .i64 2] := by rw [hC]; exact HasObj.new _ _ _
  have hbn : Below wq1.heap.size wq1 wq2 := by rw [hC]; exact (Below.refl _ _).alloc (Nat.le_refl _) _
  have neK1C : g1 ≠ wq1.heap.size := Nat.ne_of_lt (unhide K1).lt
  have neK2C : g2 ≠ wq1.heap.size := Nat.ne_of_lt (unhide K2).lt
  have neAC : w.heap.size ≠ wq1.heap.size := Nat.ne_of_lt (unhide A).lt
  have loC : w.heap.size ≤ wq1.heap.size := (unhide BB).size
  have EC := hC.symm
  clear hC
  have K1_ := hide ((unhide K1).ups hbn)
  clear K1
  have K1 := K1_
  clear K1_
  have K2_ := hide ((unhide K2).ups hbn)
  clear K2
  have K2 := K2_
  clear K2_
  have A_ := hide ((unhide A).ups hbn)
  clear A
  have A := A_
  clear A_
  have sz2 := hide (hbn.size)
  have BB_ := hide (below_y (unhide BB) hbn)
  clear BB
  have BB := BB_
  clear BB_
  clear hbn
  have C := hide Cx
  clear Cx
  have Ac0_1 := (unhide A).cell 0 rfl
  have Ac1_1 := (unhide A).cell 1 rfl
  have Cc0_2 := (unhide C).cell 0 rfl
  have Cc1_2 := (unhide C).cell 1 rfl
  go_enter Try.func6, Try.ntmps6
  go_wp2_with fail
  clear Ac0_1 Ac1_1 Cc0_2 Cc1_2 EA EC
  refine (eqBoxS_one g1 g2 _ (unhide K1) (unhide K2)).mono ?_
  rintro e wq3 ⟨rfl, hb⟩
  have K1_ := hide ((unhide K1).ups hb)
  clear K1
  have K1 := K1_
  clear K1_
  have K2_ := hide ((unhide K2).ups hb)
  clear K2
  have K2 := K2_
  clear K2_
  have A_ := hide ((unhide A).ups hb)
  clear A
  have A := A_
  clear A_
  have C_ := hide ((unhide C).ups hb)
  clear C
  have C := C_
  clear C_
  have sz3 := hide (hb.size)
  have BB_ := hide (below_y (unhide BB) hb)
  clear BB
  have BB := BB_
  clear BB_
  clear hb
  have Ac0_3 := (unhide A).cell 0 rfl
  have Ac1_3 := (unhide A).cell 1 rfl
  have Cc0_4 := (unhide C).cell 0 rfl
  have Cc1_4 := (unhide C).cell 1 rfl
  go_wp2
  go_ret
  exact ⟨rfl, unhide BB⟩
set_option maxHeartbeats 8000000 in
set_option maxRecDepth 100000 in
theorem markBoxS_one (g1 : Nat) (w : World) (h1 : HasObj w g1 32 [.string ⟨#[105, 110, 98, 111, 120]⟩, .int .i64 1, .int .i64 1, .int .i64 1, .slice none 0 0, .slice none 0 0, .int .i64 0]) :
    Calls Try.prog 12 #[.slice (some ⟨g1, 0, none⟩) 1 1, .int .i64 1] w fun e w' => e = .returned (.int .i64 6) ∧ HasObj w' g1 32 [.string ⟨(mkL 1).toArray⟩, .int .i64 2, .int .i64 3, .int .i64 4, .slice none 0 0, .slice none 0 0, .int .i64 5] ∧ w.grownBy w' (some g1) := by
  have K1 := hide h1
  have BB := hide (g_self w (some g1))
  clear h1
  go_enter Try.func12, Try.ntmps12
  go_wp2
  go_loopw [1, 5] (fun m i wr => ∃ k : Nat, k ≤ 1 ∧ i = .int .i64 k ∧ (k = 0 → m = .int .i64 1 ∧ wr = w) ∧ (k = 1 → m = .int .i64 6 ∧ HasObj wr g1 32 [.string ⟨(mkL 1).toArray⟩, .int .i64 2, .int .i64 3, .int .i64 4, .slice none 0 0, .slice none 0 0, .int .i64 5] ∧ w.grownBy wr (some g1))) (fun _ i _ => 1 - (intOf i).toNat)
  case atStart => exact ⟨0, by omega, rfl, fun _ => ⟨rfl, rfl⟩, fun h => by omega⟩
  case round =>
    obtain ⟨k, hk, rfl, z0, z1⟩ := hrel
    have hk2 : k = 0 ∨ k = 1 := by omega
    rcases hk2 with rfl | rfl
    · obtain ⟨rfl, hwr⟩ := z0 rfl
      subst hwr
      clear z1 z0
      simp only [show ((0 : Nat) : Int) = 0 from rfl]
      go_wp2_with fail
      refine (show Calls _ _ _ _ _ from markText_any 1 _ (by decide) (by decide)).mono ?_
      rintro e wm1 ⟨rfl, hb⟩
      have K1_ := hide ((unhide K1).ups hb)
      clear K1
      have K1 := K1_
      clear K1_
      have sz1 := hide (hb.size)
      have BB_ := hide (g_then (unhide BB) hb)
      clear BB
      have BB := BB_
      clear BB_
      clear hb
      have K1fz0_1 := (unhide K1).frozen 0
      have K1cz0_1 := (unhide K1).cell 0 rfl
      obtain ⟨wm2, hst⟩ : ∃ X, X = wm1.setCell ⟨g1, 0, none⟩ (.string ⟨(mkL 1).toArray⟩) := ⟨_, rfl⟩
      have K1_ := hide ((unhide K1).set 0 (.string ⟨(mkL 1).toArray⟩))
      rw [← hst] at K1_
      have BB_ := hide (g_store (j := 0) (unhide BB) (.string ⟨(mkL 1).toArray⟩))
      rw [← hst] at BB_
      clear K1 BB
      have K1 := K1_
      have BB := BB_
      clear K1_ BB_
      have Est1 := hst.symm
      clear hst
      have K1fz1_2 := (unhide K1).frozen 1
      have K1cz1_2 := (unhide K1).cell 1 rfl
      obtain ⟨wm3, hst⟩ : ∃ X, X = wm2.setCell ⟨g1, 1, none⟩ (.int .i64 2) := ⟨_, rfl⟩
      have K1_ := hide ((unhide K1).set 1 (.int .i64 2))
      rw [← hst] at K1_
      have BB_ := hide (g_store (j := 1) (unhide BB) (.int .i64 2))
      rw [← hst] at BB_
      clear K1 BB
      have K1 := K1_
      have BB := BB_
      clear K1_ BB_
      have Est2 := hst.symm
      clear hst
      have K1fz2_3 := (unhide K1).frozen 2
      have K1cz2_3 := (unhide K1).cell 2 rfl
      obtain ⟨wm4, hst⟩ : ∃ X, X = wm3.setCell ⟨g1, 2, none⟩ (.int .i64 3) := ⟨_, rfl⟩
      have K1_ := hide ((unhide K1).set 2 (.int .i64 3))
      rw [← hst] at K1_
      have BB_ := hide (g_store (j := 2) (unhide BB) (.int .i64 3))
      rw [← hst] at BB_
      clear K1 BB
      have K1 := K1_
      have BB := BB_
      clear K1_ BB_
      have Est3 := hst.symm
      clear hst
      have K1fz3_4 := (unhide K1).frozen 3
      have K1cz3_4 := (unhide K1).cell 3 rfl
      obtain ⟨wm5, hst⟩ : ∃ X, X = wm4.setCell ⟨g1, 3, none⟩ (.int .i64 4) := ⟨_, rfl⟩
      have K1_ := hide ((unhide K1).set 3 (.int .i64 4))
      rw [← hst] at K1_
      have BB_ := hide (g_store (j := 3) (unhide BB) (.int .i64 4))
      rw [← hst] at BB_
      clear K1 BB
      have K1 := K1_
      have BB := BB_
      clear K1_ BB_
      have Est4 := hst.symm
      clear hst
      have K1c0_5 := (unhide K1).cell 0 rfl
      have K1c1_5 := (unhide K1).cell 1 rfl
      have K1c2_5 := (unhide K1).cell 2 rfl
      have K1c3_5 := (unhide K1).cell 3 rfl
      have K1c4_5 := (unhide K1).cell 4 rfl
      have K1c5_5 := (unhide K1).cell 5 rfl
      have K1c6_5 := (unhide K1).cell 6 rfl
      go_wp2_with fail
      clear K1fz0_1 K1cz0_1 K1fz1_2 K1cz1_2 K1fz2_3 K1cz2_3 K1fz3_4 K1cz3_4 K1c0_5 K1c1_5 K1c2_5 K1c3_5 K1c4_5 K1c5_5 K1c6_5 Est1 Est2 Est3 Est4
      refine (show Calls _ _ _ _ _ from markMailS_any [] _ 0 5 _ (by decide) (by decide) (by decide) (World.ownsRow_nil _ _ _ _)).mono ?_
      rintro e wm6 ⟨rfl, _, hg⟩
      have hb := g_below hg
      clear hg
      have K1_ := hide ((unhide K1).ups hb)
      clear K1
      have K1 := K1_
      clear K1_
      have sz2 := hide (hb.size)
      have BB_ := hide (g_then (unhide BB) hb)
      clear BB
      have BB := BB_
      clear BB_
      clear hb
      have K1c0_6 := (unhide K1).cell 0 rfl
      have K1c1_6 := (unhide K1).cell 1 rfl
      have K1c2_6 := (unhide K1).cell 2 rfl
      have K1c3_6 := (unhide K1).cell 3 rfl
      have K1c4_6 := (unhide K1).cell 4 rfl
      have K1c5_6 := (unhide K1).cell 5 rfl
      have K1c6_6 := (unhide K1).cell 6 rfl
      go_wp2_with fail
      clear K1c0_6 K1c1_6 K1c2_6 K1c3_6 K1c4_6 K1c5_6 K1c6_6
      refine (show Calls _ _ _ _ _ from markTombS_any [] _ 0 5 _ (by decide) (by decide) (by decide) (World.ownsRow_nil _ _ _ _)).mono ?_
      rintro e wm7 ⟨rfl, _, hg⟩
      have hb := g_below hg
      clear hg
      have K1_ := hide ((unhide K1).ups hb)
      clear K1
      have K1 := K1_
      clear K1_
      have sz3 := hide (hb.size)
      have BB_ := hide (g_then (unhide BB) hb)
      clear BB
      have BB := BB_
      clear BB_
      clear hb
      have K1fz6_7 := (unhide K1).frozen 6
      have K1cz6_7 := (unhide K1).cell 6 rfl
      obtain ⟨wm8, hst⟩ : ∃ X, X = wm7.setCell ⟨g1, 6, none⟩ (.int .i64 5) := ⟨_, rfl⟩
      have K1_ := hide ((unhide K1).set 6 (.int .i64 5))
      rw [← hst] at K1_
      have BB_ := hide (g_store (j := 6) (unhide BB) (.int .i64 5))
      rw [← hst] at BB_
      clear K1 BB
      have K1 := K1_
      have BB := BB_
      clear K1_ BB_
      have Est7 := hst.symm
      clear hst
      go_wp2
      go_roundw
      case rel => exact ⟨1, by omega, by go_num, fun h => by omega, fun _ => ⟨rfl, unhide K1, unhide BB⟩⟩
      case measure => simp [intOf]
    · obtain ⟨rfl, o1, gr⟩ := z1 rfl
      clear z0 z1
      simp only [show ((1 : Nat) : Int) = 1 from rfl]
      have O1 := hide o1
      have GR := hide gr
      clear o1 gr
      go_wp2
      go_ret
      exact ⟨rfl, unhide O1, unhide GR⟩
set_option maxHeartbeats 8000000 in
set_option maxRecDepth 100000 in
theorem heldBoxS_one (g1 : Nat) (w : World) (h1 : HasObj w g1 32 [.string ⟨(mkL 1).toArray⟩, .int .i64 2, .int .i64 3, .int .i64 4, .slice none 0 0, .slice none 0 0, .int .i64 5]) :
    Calls Try.prog 13 #[.slice (some ⟨g1, 0, none⟩) 1 1, .int .i64 1] w fun e w' => e = .returned (.int .i64 6) ∧ Below w.heap.size w w' := by
  have K1 := hide h1
  clear h1
  have BB := hide (Below.refl w.heap.size w)
  go_enter Try.func13, Try.ntmps13
  go_wp2
  go_loopw [1, 5] (fun m i wr => ∃ k : Nat, k ≤ 1 ∧ i = .int .i64 k ∧ (k = 0 → m = .int .i64 1) ∧ (k = 1 → m = .int .i64 6) ∧ HasObj wr g1 32 [.string ⟨(mkL 1).toArray⟩, .int .i64 2, .int .i64 3, .int .i64 4, .slice none 0 0, .slice none 0 0, .int .i64 5] ∧ Below w.heap.size w wr) (fun _ i _ => 1 - (intOf i).toNat)
  case atStart => exact ⟨0, by omega, rfl, fun _ => rfl, fun h => by omega, unhide K1, unhide BB⟩
  clear K1 BB
  case round =>
    obtain ⟨k, hk, rfl, z0, z1, o1, hbel⟩ := hrel
    obtain ⟨wo, hwo⟩ : ∃ wo, wo = wr := ⟨_, rfl⟩
    subst hwo
    have K1 := hide o1
    have BB := hide hbel
    clear o1 hbel
    have hk2 : k = 0 ∨ k = 1 := by omega
    rcases hk2 with rfl | rfl
    · obtain rfl := z0 rfl
      clear z1
      simp only [show ((0 : Nat) : Int) = 0 from rfl]
      have K1c0_1 := (unhide K1).cell 0 rfl
      have K1c1_1 := (unhide K1).cell 1 rfl
      have K1c2_1 := (unhide K1).cell 2 rfl
      have K1c3_1 := (unhide K1).cell 3 rfl
      have K1c4_1 := (unhide K1).cell 4 rfl
      have K1c5_1 := (unhide K1).cell 5 rfl
      have K1c6_1 := (unhide K1).cell 6 rfl
      go_wp2
      refine wp_region_held_drew (S := fun w' => w'.cell? ⟨g1, 0, none⟩ = some (.string ⟨(mkL 1).toArray⟩)) (by kernel_rfl) ((unhide K1).cell 0 rfl) (fun hHeld => ?_)
      clear K1c0_1 K1c1_1 K1c2_1 K1c3_1 K1c4_1 K1c5_1 K1c6_1
      have K1_ := hide ((unhide K1).drew)
      clear K1
      have K1 := K1_
      clear K1_
      have BB_ := hide ((unhide BB).drew)
      clear BB
      have BB := BB_
      clear BB_
      have sz1 : Hid (wo.heap.size ≤ wo.drew.heap.size) := Nat.le_refl _
      refine takeVal 0 (some 12) ?_ rfl (by kernel_rfl) (by kernel_rfl) (by kernel_rfl) rfl (fun _ _ _ h => h) (by rfl) (by assumption) ?_ ?_
      rotate_left
      · (intro w hSw; (try dsimp only at hSw); go_simp <;> with_reducible rfl)
      simp only [Act.put, List.setIfInBounds_toArray, List.set_cons_zero, List.set_cons_succ]
      refine takeVal 1 (some 13) ?_ rfl (by kernel_rfl) (by kernel_rfl) (by kernel_rfl) rfl (fun _ _ _ h => h) (by rfl) (by assumption) ?_ ?_
      rotate_left
      · (intro w hSw; (try dsimp only at hSw); go_simp <;> with_reducible rfl)
      simp only [Act.put, List.setIfInBounds_toArray, List.set_cons_zero, List.set_cons_succ]
      refine takeVal 2 (some 14) ?_ rfl (by kernel_rfl) (by kernel_rfl) (by kernel_rfl) rfl (fun _ _ _ h => h) (by rfl) (by assumption) ?_ ?_
      rotate_left
      · (intro w hSw; (try dsimp only at hSw); go_simp <;> with_reducible rfl)
      simp only [Act.put, List.setIfInBounds_toArray, List.set_cons_zero, List.set_cons_succ]
      refine takeVal 3 (some 15) ?_ rfl (by kernel_rfl) (by kernel_rfl) (by kernel_rfl) rfl (fun _ _ _ h => h) (by rfl) (by assumption) ?_ ?_
      rotate_left
      · (intro w hSw; (try dsimp only at hSw); go_simp <;> with_reducible rfl)
      simp only [Act.put, List.setIfInBounds_toArray, List.set_cons_zero, List.set_cons_succ]
      refine takeVal 4 (some 16) ?_ rfl (by kernel_rfl) (by kernel_rfl) (by kernel_rfl) rfl (fun _ _ _ h => h) (by rfl) (by assumption) ?_ ?_
      rotate_left
      · (intro w hSw; (try dsimp only at hSw); go_simp <;> with_reducible rfl)
      simp only [Act.put, List.setIfInBounds_toArray, List.set_cons_zero, List.set_cons_succ]
      refine takeVal 5 (some 17) ?_ rfl (by kernel_rfl) (by kernel_rfl) (by kernel_rfl) rfl (fun _ _ _ h => h) (by rfl) (by assumption) ?_ ?_
      rotate_left
      · (intro w hSw; (try dsimp only at hSw); go_simp <;> with_reducible rfl)
      simp only [Act.put, List.setIfInBounds_toArray, List.set_cons_zero, List.set_cons_succ]
      refine wpAnyH_ready (rs := [6]) (by kernel_rfl) (by simp) ?_
      refine AllReadyH.cons rfl (fun K hK => ?_) AllReadyH.nil
      go_simp
      refine (show Calls _ _ _ _ _ from markText_any 1 _ (by decide) (by decide)).mono ?_
      rintro e wh1 ⟨rfl, hb⟩
      have K1_ := hide ((unhide K1).ups hb)
      clear K1
      have K1 := K1_
      clear K1_
      have sz2 := hide (hb.size)
      have BB_ := hide (below_y (unhide BB) hb)
      clear BB
      have BB := BB_
      clear BB_
      clear hb
      go_wp2_with fail
      refine hK.out _ _ ((unhide K1).cell 0 rfl) (fun hHeld2 => ?_)
      clear hK K hHeld
      have hHeld := hHeld2; clear hHeld2
      try simp only [Act.put, List.setIfInBounds_toArray, List.set_cons_zero, List.set_cons_succ]
      refine takeVal 7 (some 19) ?_ rfl (by kernel_rfl) (by kernel_rfl) (by kernel_rfl) rfl (fun _ _ _ h => h) (by rfl) (by assumption) ?_ ?_
      rotate_left
      · (intro w hSw; (try dsimp only at hSw); go_simp <;> with_reducible rfl)
      simp only [Act.put, List.setIfInBounds_toArray, List.set_cons_zero, List.set_cons_succ]
      refine wpAnyH_done (by kernel_rfl) ?_ _
      have K1c0_2 := (unhide K1).cell 0 rfl
      have K1c1_2 := (unhide K1).cell 1 rfl
      have K1c2_2 := (unhide K1).cell 2 rfl
      have K1c3_2 := (unhide K1).cell 3 rfl
      have K1c4_2 := (unhide K1).cell 4 rfl
      have K1c5_2 := (unhide K1).cell 5 rfl
      have K1c6_2 := (unhide K1).cell 6 rfl
      go_wp2_with fail
      clear K1c0_2 K1c1_2 K1c2_2 K1c3_2 K1c4_2 K1c5_2 K1c6_2
      refine (show Calls _ _ _ _ _ from heldMailS_any 0 _ 0 5 _ (by decide) (by decide) (by decide) (World.ownsRow_nil _ _ _ _)).mono ?_
      rintro e wh2 ⟨rfl, hb⟩
      have K1_ := hide ((unhide K1).ups hb)
      clear K1
      have K1 := K1_
      clear K1_
      have sz3 := hide (hb.size)
      have BB_ := hide (below_y (unhide BB) hb)
      clear BB
      have BB := BB_
      clear BB_
      clear hb
      have K1c0_3 := (unhide K1).cell 0 rfl
      have K1c1_3 := (unhide K1).cell 1 rfl
      have K1c2_3 := (unhide K1).cell 2 rfl
      have K1c3_3 := (unhide K1).cell 3 rfl
      have K1c4_3 := (unhide K1).cell 4 rfl
      have K1c5_3 := (unhide K1).cell 5 rfl
      have K1c6_3 := (unhide K1).cell 6 rfl
      go_wp2_with fail
      clear K1c0_3 K1c1_3 K1c2_3 K1c3_3 K1c4_3 K1c5_3 K1c6_3
      refine (show Calls _ _ _ _ _ from heldTombS_any 0 _ 0 5 _ (by decide) (by decide) (by decide) (World.ownsRow_nil _ _ _ _)).mono ?_
      rintro e wh3 ⟨rfl, hb⟩
      have K1_ := hide ((unhide K1).ups hb)
      clear K1
      have K1 := K1_
      clear K1_
      have sz4 := hide (hb.size)
      have BB_ := hide (below_y (unhide BB) hb)
      clear BB
      have BB := BB_
      clear BB_
      clear hb
      have K1c0_4 := (unhide K1).cell 0 rfl
      have K1c1_4 := (unhide K1).cell 1 rfl
      have K1c2_4 := (unhide K1).cell 2 rfl
      have K1c3_4 := (unhide K1).cell 3 rfl
      have K1c4_4 := (unhide K1).cell 4 rfl
      have K1c5_4 := (unhide K1).cell 5 rfl
      have K1c6_4 := (unhide K1).cell 6 rfl
      go_wp2
      go_roundw
      case rel => exact ⟨1, by omega, by go_num, fun h => by omega, fun _ => rfl, unhide K1, unhide BB⟩
      case measure => simp [intOf]
    · obtain rfl := z1 rfl
      clear z0
      simp only [show ((1 : Nat) : Int) = 1 from rfl]
      go_wp2
      go_ret
      exact ⟨rfl, unhide BB⟩
theorem below_g1 {w w' : World} {r : Option Nat} (h : Below w.heap.size w w') : w.grownBy w' r := ⟨h.os, h.tape, h.output, h.size, fun k hk _ => h.block k hk⟩
set_option maxHeartbeats 4000000 in
theorem markStore_one (g1 : Nat) (w : World) (h1 : HasObj w g1 32 [.string ⟨#[105, 110, 98, 111, 120]⟩, .int .i64 1, .int .i64 1, .int .i64 1, .slice none 0 0, .slice none 0 0, .int .i64 0]) :
    Calls Try.prog 7 #[.agg #[.slice (some ⟨g1, 0, none⟩) 1 1, .int .i64 2], .int .i64 1] w fun e w' => e = .returned (.int .i64 6) ∧ HasObj w' g1 32 [.string ⟨(mkL 1).toArray⟩, .int .i64 2, .int .i64 3, .int .i64 4, .slice none 0 0, .slice none 0 0, .int .i64 5] ∧ w.grownBy w' (some g1) := by
  have K1 := hide h1
  clear h1
  have BB := hide (Below.refl w.heap.size w)
  obtain ⟨wv1, hA⟩ : ∃ X, X = w.alloc (.cells ([.slice (some ⟨g1, 0, none⟩) 1 1, .int .i64 2] : List Value).toArray 24) := ⟨_, rfl⟩
  have Ax : HasObj wv1 w.heap.size 24 [.slice (some ⟨g1, 0, none⟩) 1 1, .int .i64 2] := by rw [hA]; exact HasObj.new _ _ _
  have hbn : Below w.heap.size w wv1 := by rw [hA]; exact (Below.refl _ _).alloc (Nat.le_refl _) _
  have neK1A : g1 ≠ w.heap.size := Nat.ne_of_lt (unhide K1).lt
  have loA : w.heap.size ≤ w.heap.size := (unhide BB).size
  have EA := hA.symm
  clear hA
  have K1_ := hide ((unhide K1).ups hbn)
  clear K1
  have K1 := K1_
  clear K1_
  have sz1 := hide (hbn.size)
  have BB_ := hide (below_y (unhide BB) hbn)
  clear BB
  have BB := BB_
  clear BB_
  clear hbn
  have A := hide Ax
  clear Ax
  have Ac0_1 := (unhide A).cell 0 rfl
  have Ac1_1 := (unhide A).cell 1 rfl
  go_enter Try.func7, Try.ntmps7
  go_wp2_with fail
  clear Ac0_1 Ac1_1 EA
  refine (markBoxS_one g1 _ (unhide K1)).mono ?_
  rintro e w5 ⟨rfl, o1, hg⟩
  have O1 := hide o1
  have GR := hide (g_join (below_g1 (unhide BB)) hg)
  clear o1 hg K1 BB A
  go_wp2
  go_ret
  exact ⟨rfl, unhide O1, unhide GR⟩
set_option maxHeartbeats 4000000 in
theorem heldStore_one (g1 : Nat) (w : World) (h1 : HasObj w g1 32 [.string ⟨(mkL 1).toArray⟩, .int .i64 2, .int .i64 3, .int .i64 4, .slice none 0 0, .slice none 0 0, .int .i64 5]) :
    Calls Try.prog 8 #[.agg #[.slice (some ⟨g1, 0, none⟩) 1 1, .int .i64 2], .int .i64 1] w fun e w' => e = .returned (.int .i64 6) ∧ Below w.heap.size w w' := by
  have K1 := hide h1
  clear h1
  have BB := hide (Below.refl w.heap.size w)
  obtain ⟨wx1, hA⟩ : ∃ X, X = w.alloc (.cells ([.slice (some ⟨g1, 0, none⟩) 1 1, .int .i64 2] : List Value).toArray 24) := ⟨_, rfl⟩
  have Ax : HasObj wx1 w.heap.size 24 [.slice (some ⟨g1, 0, none⟩) 1 1, .int .i64 2] := by rw [hA]; exact HasObj.new _ _ _
  have hbn : Below w.heap.size w wx1 := by rw [hA]; exact (Below.refl _ _).alloc (Nat.le_refl _) _
  have neK1A : g1 ≠ w.heap.size := Nat.ne_of_lt (unhide K1).lt
  have loA : w.heap.size ≤ w.heap.size := (unhide BB).size
  have EA := hA.symm
  clear hA
  have K1_ := hide ((unhide K1).ups hbn)
  clear K1
  have K1 := K1_
  clear K1_
  have sz1 := hide (hbn.size)
  have BB_ := hide (below_y (unhide BB) hbn)
  clear BB
  have BB := BB_
  clear BB_
  clear hbn
  have A := hide Ax
  clear Ax
  have Ac0_1 := (unhide A).cell 0 rfl
  have Ac1_1 := (unhide A).cell 1 rfl
  go_enter Try.func8, Try.ntmps8
  go_wp2_with fail
  clear Ac0_1 Ac1_1 EA
  refine (heldBoxS_one g1 _ (unhide K1)).mono ?_
  rintro e wx2 ⟨rfl, hb⟩
  have K1_ := hide ((unhide K1).ups hb)
  clear K1
  have K1 := K1_
  clear K1_
  have A_ := hide ((unhide A).ups hb)
  clear A
  have A := A_
  clear A_
  have sz2 := hide (hb.size)
  have BB_ := hide (below_y (unhide BB) hb)
  clear BB
  have BB := BB_
  clear BB_
  clear hb
  go_wp2
  go_ret
  exact ⟨rfl, unhide BB⟩
theorem neq_ty {W : World} {a b : Nat} {s t : TypeId} {us vs : List Value} (h : HasObj W a s us) (k : HasObj W b t vs) (hne : s ≠ t) : a ≠ b := by
  intro e
  subst e
  have h1 := h.symm.trans k
  injection h1 with h2
  injection h2 with h3 h4
  exact hne h4
set_option maxHeartbeats 8000000 in
set_option maxRecDepth 100000 in
theorem FnExactStoreNew_walk (w : World) : Calls Try.prog 3 #[] w fun e w' => e = .returned (.bool true) ∧ Below w.heap.size w w' := by
  have BB := hide (Below.refl w.heap.size w)
  go_enter Try.func3, Try.ntmps3
  go_wp2_with fail
  refine (spec_StoreNew_one _).mono ?_
  rintro e wl1 ⟨gW, rfl, loW_, oW, hb⟩
  have loWx : Hid (w.heap.size ≤ gW) := Nat.le_trans (unhide BB).size loW_
  have KW_ := hide oW
  clear oW loW_
  have sz1 := hide (hb.size)
  have BB_ := hide (below_y (unhide BB) hb)
  clear BB
  have BB := BB_
  clear BB_
  clear hb
  have KW := KW_
  clear KW_
  obtain ⟨wl2, hW⟩ : ∃ X, X = wl1.alloc (.cells ([.slice (some ⟨gW, 0, none⟩) 1 1, .int .i64 2] : List Value).toArray 24) := ⟨_, rfl⟩
  have Wx : HasObj wl2 wl1.heap.size 24 [.slice (some ⟨gW, 0, none⟩) 1 1, .int .i64 2] := by rw [hW]; exact HasObj.new _ _ _
  have hbn : Below wl1.heap.size wl1 wl2 := by rw [hW]; exact (Below.refl _ _).alloc (Nat.le_refl _) _
  have neKWW : gW ≠ wl1.heap.size := Nat.ne_of_lt (unhide KW).lt
  have loW : w.heap.size ≤ wl1.heap.size := (unhide BB).size
  have EW := hW.symm
  clear hW
  have KW_ := hide ((unhide KW).ups hbn)
  clear KW
  have KW := KW_
  clear KW_
  have sz2 := hide (hbn.size)
  have BB_ := hide (below_y (unhide BB) hbn)
  clear BB
  have BB := BB_
  clear BB_
  clear hbn
  have W := hide Wx
  clear Wx
  go_wp2_with fail
  clear EW
  refine (impl_StoreNew_one _).mono ?_
  rintro e wl3 ⟨gG, rfl, loG_, oG, hb⟩
  have neKWKG : gW ≠ gG := by have q1_ := (unhide KW).lt; omega
  have loGx : Hid (w.heap.size ≤ gG) := Nat.le_trans (unhide BB).size loG_
  have KG_ := hide oG
  clear oG loG_
  have KW_ := hide ((unhide KW).ups hb)
  clear KW
  have KW := KW_
  clear KW_
  have W_ := hide ((unhide W).ups hb)
  clear W
  have W := W_
  clear W_
  have sz3 := hide (hb.size)
  have BB_ := hide (below_y (unhide BB) hb)
  clear BB
  have BB := BB_
  clear BB_
  clear hb
  have KG := KG_
  clear KG_
  obtain ⟨wl4, hG⟩ : ∃ X, X = wl3.alloc (.cells ([.slice (some ⟨gG, 0, none⟩) 1 1, .int .i64 2] : List Value).toArray 24) := ⟨_, rfl⟩
  have Gx : HasObj wl4 wl3.heap.size 24 [.slice (some ⟨gG, 0, none⟩) 1 1, .int .i64 2] := by rw [hG]; exact HasObj.new _ _ _
  have hbn : Below wl3.heap.size wl3 wl4 := by rw [hG]; exact (Below.refl _ _).alloc (Nat.le_refl _) _
  have neKWG : gW ≠ wl3.heap.size := Nat.ne_of_lt (unhide KW).lt
  have neWG : wl1.heap.size ≠ wl3.heap.size := Nat.ne_of_lt (unhide W).lt
  have neKGG : gG ≠ wl3.heap.size := Nat.ne_of_lt (unhide KG).lt
  have loG : w.heap.size ≤ wl3.heap.size := (unhide BB).size
  have EG := hG.symm
  clear hG
  have KW_ := hide ((unhide KW).ups hbn)
  clear KW
  have KW := KW_
  clear KW_
  have W_ := hide ((unhide W).ups hbn)
  clear W
  have W := W_
  clear W_
  have KG_ := hide ((unhide KG).ups hbn)
  clear KG
  have KG := KG_
  clear KG_
  have sz4 := hide (hbn.size)
  have BB_ := hide (below_y (unhide BB) hbn)
  clear BB
  have BB := BB_
  clear BB_
  clear hbn
  have G := hide Gx
  clear Gx
  have Wc0_1 := (unhide W).cell 0 rfl
  have Wc1_1 := (unhide W).cell 1 rfl
  have Gc0_2 := (unhide G).cell 0 rfl
  have Gc1_2 := (unhide G).cell 1 rfl
  go_wp2_with fail
  clear Wc0_1 Wc1_1 Gc0_2 Gc1_2 EG
  refine (eqStore_one gG gW _ (unhide KG) (unhide KW)).mono ?_
  rintro e wl5 ⟨rfl, hb⟩
  have KW_ := hide ((unhide KW).ups hb)
  clear KW
  have KW := KW_
  clear KW_
  have W_ := hide ((unhide W).ups hb)
  clear W
  have W := W_
  clear W_
  have KG_ := hide ((unhide KG).ups hb)
  clear KG
  have KG := KG_
  clear KG_
  have G_ := hide ((unhide G).ups hb)
  clear G
  have G := G_
  clear G_
  have sz5 := hide (hb.size)
  have BB_ := hide (below_y (unhide BB) hb)
  clear BB
  have BB := BB_
  clear BB_
  clear hb
  have Gc0_3 := (unhide G).cell 0 rfl
  have Gc1_3 := (unhide G).cell 1 rfl
  go_wp2_with fail
  clear Gc0_3 Gc1_3
  refine (markStore_one gG _ (unhide KG)).mono ?_
  rintro e wl6 ⟨rfl, oG, hg⟩
  have KW_ := hide ((unhide KW).kept hg (fun e => by have q1_ := Option.some.inj e; exact neKWKG q1_))
  have W_ := hide ((unhide W).kept hg (fun e => by have q1_ := Option.some.inj e; exact neq_ty (unhide W) (unhide KG) (by decide) q1_))
  have G_ := hide ((unhide G).kept hg (fun e => by have q1_ := Option.some.inj e; exact neq_ty (unhide G) (unhide KG) (by decide) q1_))
  have BB_ : Hid (Below w.heap.size w wl6) := (unhide BB).grown hg (unhide BB).size (fun k hk => by have q1_ := Option.some.inj hk; have q2_ := unhide loGx; omega)
  clear KW
  have KW := KW_
  clear KW_
  clear W
  have W := W_
  clear W_
  clear G
  have G := G_
  clear G_
  clear BB
  have BB := BB_
  clear BB_
  clear KG
  have KG := hide oG
  clear oG hg
  have Gc0_4 := (unhide G).cell 0 rfl
  have Gc1_4 := (unhide G).cell 1 rfl
  go_wp2_with fail
  clear Gc0_4 Gc1_4
  refine (heldStore_one gG _ (unhide KG)).mono ?_
  rintro e wl7 ⟨rfl, hb⟩
  have KW_ := hide ((unhide KW).ups hb)
  clear KW
  have KW := KW_
  clear KW_
  have W_ := hide ((unhide W).ups hb)
  clear W
  have W := W_
  clear W_
  have KG_ := hide ((unhide KG).ups hb)
  clear KG
  have KG := KG_
  clear KG_
  have G_ := hide ((unhide G).ups hb)
  clear G
  have G := G_
  clear G_
  have sz6 := hide (hb.size)
  have BB_ := hide (below_y (unhide BB) hb)
  clear BB
  have BB := BB_
  clear BB_
  clear hb
  go_wp2_with fail
  refine (impl_StoreNew_one _).mono ?_
  rintro e wl8 ⟨gH, rfl, loH_, oH, hb⟩
  have neKWKH : gW ≠ gH := by have q1_ := (unhide KW).lt; omega
  have neKGKH : gG ≠ gH := by have q1_ := (unhide KG).lt; omega
  have loHx : Hid (w.heap.size ≤ gH) := Nat.le_trans (unhide BB).size loH_
  have KH_ := hide oH
  clear oH loH_
  have KW_ := hide ((unhide KW).ups hb)
  clear KW
  have KW := KW_
  clear KW_
  have W_ := hide ((unhide W).ups hb)
  clear W
  have W := W_
  clear W_
  have KG_ := hide ((unhide KG).ups hb)
  clear KG
  have KG := KG_
  clear KG_
  have G_ := hide ((unhide G).ups hb)
  clear G
  have G := G_
  clear G_
  have sz7 := hide (hb.size)
  have BB_ := hide (below_y (unhide BB) hb)
  clear BB
  have BB := BB_
  clear BB_
  clear hb
  have KH := KH_
  clear KH_
  obtain ⟨wl9, hH⟩ : ∃ X, X = wl8.alloc (.cells ([.slice (some ⟨gH, 0, none⟩) 1 1, .int .i64 2] : List Value).toArray 24) := ⟨_, rfl⟩
  have Hx : HasObj wl9 wl8.heap.size 24 [.slice (some ⟨gH, 0, none⟩) 1 1, .int .i64 2] := by rw [hH]; exact HasObj.new _ _ _
  have hbn : Below wl8.heap.size wl8 wl9 := by rw [hH]; exact (Below.refl _ _).alloc (Nat.le_refl _) _
  have neKWH : gW ≠ wl8.heap.size := Nat.ne_of_lt (unhide KW).lt
  have neWH : wl1.heap.size ≠ wl8.heap.size := Nat.ne_of_lt (unhide W).lt
  have neKGH : gG ≠ wl8.heap.size := Nat.ne_of_lt (unhide KG).lt
  have neGH : wl3.heap.size ≠ wl8.heap.size := Nat.ne_of_lt (unhide G).lt
  have neKHH : gH ≠ wl8.heap.size := Nat.ne_of_lt (unhide KH).lt
  have loH : w.heap.size ≤ wl8.heap.size := (unhide BB).size
  have EH := hH.symm
  clear hH
  have KW_ := hide ((unhide KW).ups hbn)
  clear KW
  have KW := KW_
  clear KW_
  have W_ := hide ((unhide W).ups hbn)
  clear W
  have W := W_
  clear W_
  have KG_ := hide ((unhide KG).ups hbn)
  clear KG
  have KG := KG_
  clear KG_
  have G_ := hide ((unhide G).ups hbn)
  clear G
  have G := G_
  clear G_
  have KH_ := hide ((unhide KH).ups hbn)
  clear KH
  have KH := KH_
  clear KH_
  have sz8 := hide (hbn.size)
  have BB_ := hide (below_y (unhide BB) hbn)
  clear BB
  have BB := BB_
  clear BB_
  clear hbn
  have H := hide Hx
  clear Hx
  have Hc0_5 := (unhide H).cell 0 rfl
  have Hc1_5 := (unhide H).cell 1 rfl
  have Wc0_6 := (unhide W).cell 0 rfl
  have Wc1_6 := (unhide W).cell 1 rfl
  go_wp2_with fail
  clear Hc0_5 Hc1_5 Wc0_6 Wc1_6 EH
  refine (eqStore_one gH gW _ (unhide KH) (unhide KW)).mono ?_
  rintro e wl10 ⟨rfl, hb⟩
  have KW_ := hide ((unhide KW).ups hb)
  clear KW
  have KW := KW_
  clear KW_
  have W_ := hide ((unhide W).ups hb)
  clear W
  have W := W_
  clear W_
  have KG_ := hide ((unhide KG).ups hb)
  clear KG
  have KG := KG_
  clear KG_
  have G_ := hide ((unhide G).ups hb)
  clear G
  have G := G_
  clear G_
  have KH_ := hide ((unhide KH).ups hb)
  clear KH
  have KH := KH_
  clear KH_
  have H_ := hide ((unhide H).ups hb)
  clear H
  have H := H_
  clear H_
  have sz9 := hide (hb.size)
  have BB_ := hide (below_y (unhide BB) hb)
  clear BB
  have BB := BB_
  clear BB_
  clear hb
  have Gc0_7 := (unhide G).cell 0 rfl
  have Gc1_7 := (unhide G).cell 1 rfl
  go_wp2_with fail
  clear Gc0_7 Gc1_7
  refine (heldStore_one gG _ (unhide KG)).mono ?_
  rintro e wl11 ⟨rfl, hb⟩
  have KW_ := hide ((unhide KW).ups hb)
  clear KW
  have KW := KW_
  clear KW_
  have W_ := hide ((unhide W).ups hb)
  clear W
  have W := W_
  clear W_
  have KG_ := hide ((unhide KG).ups hb)
  clear KG
  have KG := KG_
  clear KG_
  have G_ := hide ((unhide G).ups hb)
  clear G
  have G := G_
  clear G_
  have KH_ := hide ((unhide KH).ups hb)
  clear KH
  have KH := KH_
  clear KH_
  have H_ := hide ((unhide H).ups hb)
  clear H
  have H := H_
  clear H_
  have sz10 := hide (hb.size)
  have BB_ := hide (below_y (unhide BB) hb)
  clear BB
  have BB := BB_
  clear BB_
  clear hb
  go_wp2
  go_ret
  exact ⟨rfl, unhide BB⟩
end Go.Proofs.Ytmedhmgihfenhab
