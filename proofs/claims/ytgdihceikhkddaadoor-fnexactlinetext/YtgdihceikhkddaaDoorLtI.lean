/- The program's LineText. Made by gen_linetext.py. -/
import Derived.Test.YtgdihceikhkddaaDoorTv
import Derived.Test.YtgdihceikhkddaaDoorLtCon
namespace Go.Proofs.YtgdihceikhkddaaDoor
open Go.RowKit Go.ChangeShapes Go.WideShapes Go.ChangeAt Go.Deep
open Plain
set_option linter.unusedVariables false
set_option linter.unusedSimpArgs false

set_option maxHeartbeats 4000000 in
set_option maxRecDepth 100000 in
theorem fetch_any (k : Int) (n u f m : Int) (l : List Rg) (b : Bool) (a : Option Addr) (c : Nat) (w : World) (hn0 : 0 ≤ n) (hn1 : n ≤ 100000) (hu0 : 0 ≤ u) (hu1 : u ≤ 100000) (hm0 : 0 ≤ m) (hm1 : m ≤ 100000) (ht : Pow w) (hN : Named w) :
  Calls Tryd.prog 28 #[.agg #[.int .i64 k, .int .i64 n, .int .i64 u, .int .i64 f, .int .i64 m, .slice a l.length c, .bool b]] w fun e w' => e = .returned (.string (fetB n u f m)) ∧ Below w.heap.size w w' := by
 have PW : Hid (∀ W, Below w.heap.size w W → Pow W) := fun W hb => ht.below hb
 clear ht
 have NM : Hid (∀ W, Below w.heap.size w W → Named W) := fun W hb => hN.below hb
 clear hN; have BB := hide (Below.refl w.heap.size w)
 obtain ⟨wi1, hA⟩ : ∃ X, X = w.alloc (.cells ([.int .i64 k, .int .i64 n, .int .i64 u, .int .i64 f, .int .i64 m, .slice a l.length c, .bool b] : List Value).toArray 30) := ⟨_, rfl⟩
 have Ax : HasObj wi1 w.heap.size 30 [.int .i64 k, .int .i64 n, .int .i64 u, .int .i64 f, .int .i64 m, .slice a l.length c, .bool b] := by rw [hA]; exact HasObj.new _ _ _
 have hbn : Below w.heap.size w wi1 := by rw [hA]; exact (Below.refl _ _).alloc (Nat.le_refl _) _
 have loA : w.heap.size ≤ w.heap.size := (uh BB).size
 have EA := hA.symm; clear hA; have sz1 := hide (hbn.size); replace BB := hide (below_y (uh BB) hbn); clear hbn; have A := hide Ax; clear Ax; have Ac0_1 := (uh A).cell 0 rfl; have Ac1_1 := (uh A).cell 1 rfl; have Ac2_1 := (uh A).cell 2 rfl; have Ac3_1 := (uh A).cell 3 rfl; have Ac4_1 := (uh A).cell 4 rfl; have Ac5_1 := (uh A).cell 5 rfl; have Ac6_1 := (uh A).cell 6 rfl
 go_enter Tryd.func28, Tryd.ntmps28
 have zn := dB_size hn0 hn1; have zu := dB_size hu0 hu1; have zf := fB_size f; have zm := dB_size hm0 hm1
 go_wp2
 clear Ac0_1 Ac1_1 Ac2_1 Ac3_1 Ac4_1 Ac5_1 Ac6_1 EA
 refine wp_region_held_drew (S := fun w' => w'.cell? ⟨w.heap.size, 0, none⟩ = some (.int .i64 k) ∧ w'.cell? ⟨w.heap.size, 1, none⟩ = some (.int .i64 n) ∧ w'.cell? ⟨w.heap.size, 2, none⟩ = some (.int .i64 u) ∧ w'.cell? ⟨w.heap.size, 3, none⟩ = some (.int .i64 f) ∧ w'.cell? ⟨w.heap.size, 4, none⟩ = some (.int .i64 m) ∧ w'.cell? ⟨w.heap.size, 5, none⟩ = some (.slice a l.length c) ∧ w'.cell? ⟨w.heap.size, 6, none⟩ = some (.bool b)) (by kernel_rfl) (⟨(uh A).cell 0 rfl, (uh A).cell 1 rfl, (uh A).cell 2 rfl, (uh A).cell 3 rfl, (uh A).cell 4 rfl, (uh A).cell 5 rfl, (uh A).cell 6 rfl⟩) (fun hHeld => ?_)
 replace A := hide ((uh A).drew); replace BB := hide ((uh BB).drew)
 have sz2 : Hid (wi1.heap.size ≤ wi1.drew.heap.size) := Nat.le_refl _
 refine tv 0 4 ?_; refine tv 1 5 ?_; refine tv 5 9 ?_; refine tv 6 10 ?_; refine tv 10 14 ?_; refine tv 11 15 ?_
 refine wpAnyH_ready (rs := [2]) (by kernel_rfl) (by simp) ?_
 refine AllReadyH.cons rfl (fun K hK => ?_) AllReadyH.nil
 go_simp
 refine (decI u _ hu0 hu1 (uh PW _ (uh BB))).mono ?_
 rintro e wi2 ⟨rfl, hb⟩
 replace A := hide ((uh A).ups hb); have sz3 := hide (hb.size); replace BB := hide (below_y (uh BB) hb); clear hb; go_wp2_with fail
 refine hK.out _ _ (⟨(uh A).cell 0 rfl, (uh A).cell 1 rfl, (uh A).cell 2 rfl, (uh A).cell 3 rfl, (uh A).cell 4 rfl, (uh A).cell 5 rfl, (uh A).cell 6 rfl⟩) (fun hHeld2 => ?_)
 clear hK K hHeld; have hHeld := hHeld2; clear hHeld2
 try simp only [Act.put, p1, p2, p3]
 refine takeVal 3 (some 7) ?_ rfl (by kernel_rfl) (by kernel_rfl) (by kernel_rfl) rfl (fun _ _ _ h => h) (by rfl) (by assumption) ?_ ?_; rotate_left; (intro w hSw; (try dsimp only at hSw); go_simp; (try rw [if_neg (by omega)]); try with_reducible rfl); simp only [Act.put, p1, p2, p3]
 refine takeVal 4 (some 8) ?_ rfl (by kernel_rfl) (by kernel_rfl) (by kernel_rfl) rfl (fun _ _ _ h => h) (by rfl) (by assumption) ?_ ?_; rotate_left; (intro w hSw; (try dsimp only at hSw); go_simp; (try rw [if_neg (by omega)]); try with_reducible rfl); simp only [Act.put, p1, p2, p3]
 refine wpAnyH_ready (rs := [7]) (by kernel_rfl) (by simp) ?_
 refine AllReadyH.cons rfl (fun K hK => ?_) AllReadyH.nil
 go_simp
 refine (flaI f _ (uh NM _ (uh BB))).mono ?_
 rintro e wi3 ⟨rfl, hb⟩
 replace A := hide ((uh A).ups hb); have sz4 := hide (hb.size); replace BB := hide (below_y (uh BB) hb); clear hb; go_wp2_with fail
 refine hK.out _ _ (⟨(uh A).cell 0 rfl, (uh A).cell 1 rfl, (uh A).cell 2 rfl, (uh A).cell 3 rfl, (uh A).cell 4 rfl, (uh A).cell 5 rfl, (uh A).cell 6 rfl⟩) (fun hHeld2 => ?_)
 clear hK K hHeld; have hHeld := hHeld2; clear hHeld2
 try simp only [Act.put, p1, p2, p3]
 refine takeVal 8 (some 12) ?_ rfl (by kernel_rfl) (by kernel_rfl) (by kernel_rfl) rfl (fun _ _ _ h => h) (by rfl) (by assumption) ?_ ?_; rotate_left; (intro w hSw; (try dsimp only at hSw); go_simp; (try rw [if_neg (by omega)]); try with_reducible rfl); simp only [Act.put, p1, p2, p3]
 refine takeVal 9 (some 13) ?_ rfl (by kernel_rfl) (by kernel_rfl) (by kernel_rfl) rfl (fun _ _ _ h => h) (by rfl) (by assumption) ?_ ?_; rotate_left; (intro w hSw; (try dsimp only at hSw); go_simp; (try rw [if_neg (by omega)]); try with_reducible rfl); simp only [Act.put, p1, p2, p3]
 refine wpAnyH_ready (rs := [12]) (by kernel_rfl) (by simp) ?_
 refine AllReadyH.cons rfl (fun K hK => ?_) AllReadyH.nil
 go_simp
 refine (decI m _ hm0 hm1 (uh PW _ (uh BB))).mono ?_
 rintro e wi4 ⟨rfl, hb⟩
 replace A := hide ((uh A).ups hb); have sz5 := hide (hb.size); replace BB := hide (below_y (uh BB) hb); clear hb; go_wp2_with fail
 refine hK.out _ _ (⟨(uh A).cell 0 rfl, (uh A).cell 1 rfl, (uh A).cell 2 rfl, (uh A).cell 3 rfl, (uh A).cell 4 rfl, (uh A).cell 5 rfl, (uh A).cell 6 rfl⟩) (fun hHeld2 => ?_)
 clear hK K hHeld; have hHeld := hHeld2; clear hHeld2
 try simp only [Act.put, p1, p2, p3]
 refine takeVal 13 (some 17) ?_ rfl (by kernel_rfl) (by kernel_rfl) (by kernel_rfl) rfl (fun _ _ _ h => h) (by rfl) (by assumption) ?_ ?_; rotate_left; (intro w hSw; (try dsimp only at hSw); go_simp; (try rw [if_neg (by omega)]); try with_reducible rfl); simp only [Act.put, p1, p2, p3]
 refine takeVal 14 (some 3) ?_ rfl (by kernel_rfl) (by kernel_rfl) (by kernel_rfl) rfl (fun _ _ _ h => h) (by rfl) (by assumption) ?_ ?_; rotate_left; (intro w hSw; (try dsimp only at hSw); go_simp; (try rw [if_neg (by omega)]); try with_reducible rfl); simp only [Act.put, p1, p2, p3]
 refine wpAnyH_done (by kernel_rfl) ?_ _
 have Ac0_2 := (uh A).cell 0 rfl; have Ac1_2 := (uh A).cell 1 rfl; have Ac2_2 := (uh A).cell 2 rfl; have Ac3_2 := (uh A).cell 3 rfl; have Ac4_2 := (uh A).cell 4 rfl; have Ac5_2 := (uh A).cell 5 rfl; have Ac6_2 := (uh A).cell 6 rfl; go_wp2_with fail; clear Ac0_2 Ac1_2 Ac2_2 Ac3_2 Ac4_2 Ac5_2 Ac6_2
 refine (decI n _ hn0 hn1 (uh PW _ (uh BB))).mono ?_
 rintro e wi5 ⟨rfl, hb⟩
 replace A := hide ((uh A).ups hb); have sz6 := hide (hb.size); replace BB := hide (below_y (uh BB) hb); clear hb
 go_wp2
 go_ret
 refine ⟨?_, uh BB⟩
 rw [← fet_same]
 rfl
set_option maxHeartbeats 4000000 in
set_option maxRecDepth 100000 in
theorem valid_true (k : Int) (n u f m : Int) (l : List Rg) (a : Option Addr) (c : Nat) (w : World) (hn0 : 0 ≤ n) (hn1 : n ≤ 100000) (hm0 : 0 ≤ m) (hm1 : m ≤ 100000) (ht : Pow w) :
  Calls Tryd.prog 30 #[.agg #[.int .i64 k, .int .i64 n, .int .i64 u, .int .i64 f, .int .i64 m, .slice a l.length c, .bool true]] w fun e w' => e = .returned (.string (valB n m ++ ⟨#[32, 97, 108, 108]⟩)) ∧ Below w.heap.size w w' := by
 have PW : Hid (∀ W, Below w.heap.size w W → Pow W) := fun W hb => ht.below hb
 clear ht; have BB := hide (Below.refl w.heap.size w)
 obtain ⟨wi1, hA⟩ : ∃ X, X = w.alloc (.cells ([.int .i64 k, .int .i64 n, .int .i64 u, .int .i64 f, .int .i64 m, .slice a l.length c, .bool true] : List Value).toArray 30) := ⟨_, rfl⟩
 have Ax : HasObj wi1 w.heap.size 30 [.int .i64 k, .int .i64 n, .int .i64 u, .int .i64 f, .int .i64 m, .slice a l.length c, .bool true] := by rw [hA]; exact HasObj.new _ _ _
 have hbn : Below w.heap.size w wi1 := by rw [hA]; exact (Below.refl _ _).alloc (Nat.le_refl _) _
 have loA : w.heap.size ≤ w.heap.size := (uh BB).size
 have EA := hA.symm; clear hA; have sz1 := hide (hbn.size); replace BB := hide (below_y (uh BB) hbn); clear hbn; have A := hide Ax; clear Ax; have Ac0_1 := (uh A).cell 0 rfl; have Ac1_1 := (uh A).cell 1 rfl; have Ac2_1 := (uh A).cell 2 rfl; have Ac3_1 := (uh A).cell 3 rfl; have Ac4_1 := (uh A).cell 4 rfl; have Ac5_1 := (uh A).cell 5 rfl; have Ac6_1 := (uh A).cell 6 rfl
 go_enter Tryd.func30, Tryd.ntmps30
 have zn := dB_size hn0 hn1; have zm := dB_size hm0 hm1
 go_wp2
 clear Ac0_1 Ac1_1 Ac2_1 Ac3_1 Ac4_1 Ac5_1 Ac6_1 EA
 refine wp_region_held_drew (S := fun w' => w'.cell? ⟨w.heap.size, 0, none⟩ = some (.int .i64 k) ∧ w'.cell? ⟨w.heap.size, 1, none⟩ = some (.int .i64 n) ∧ w'.cell? ⟨w.heap.size, 2, none⟩ = some (.int .i64 u) ∧ w'.cell? ⟨w.heap.size, 3, none⟩ = some (.int .i64 f) ∧ w'.cell? ⟨w.heap.size, 4, none⟩ = some (.int .i64 m) ∧ w'.cell? ⟨w.heap.size, 5, none⟩ = some (.slice a l.length c) ∧ w'.cell? ⟨w.heap.size, 6, none⟩ = some (.bool true)) (by kernel_rfl) (⟨(uh A).cell 0 rfl, (uh A).cell 1 rfl, (uh A).cell 2 rfl, (uh A).cell 3 rfl, (uh A).cell 4 rfl, (uh A).cell 5 rfl, (uh A).cell 6 rfl⟩) (fun hHeld => ?_)
 replace A := hide ((uh A).drew); replace BB := hide ((uh BB).drew)
 have sz2 : Hid (wi1.heap.size ≤ wi1.drew.heap.size) := Nat.le_refl _
 refine tv 0 4 ?_; refine tv 1 5 ?_; refine tv 5 9 ?_; refine tv 6 10 ?_
 refine wpAnyH_ready (rs := [2]) (by kernel_rfl) (by simp) ?_
 refine AllReadyH.cons rfl (fun K hK => ?_) AllReadyH.nil
 go_simp
 refine (decI n _ hn0 hn1 (uh PW _ (uh BB))).mono ?_
 rintro e wi2 ⟨rfl, hb⟩
 replace A := hide ((uh A).ups hb); have sz3 := hide (hb.size); replace BB := hide (below_y (uh BB) hb); clear hb; go_wp2_with fail
 refine hK.out _ _ (⟨(uh A).cell 0 rfl, (uh A).cell 1 rfl, (uh A).cell 2 rfl, (uh A).cell 3 rfl, (uh A).cell 4 rfl, (uh A).cell 5 rfl, (uh A).cell 6 rfl⟩) (fun hHeld2 => ?_)
 clear hK K hHeld; have hHeld := hHeld2; clear hHeld2
 try simp only [Act.put, p1, p2, p3]
 refine takeVal 3 (some 7) ?_ rfl (by kernel_rfl) (by kernel_rfl) (by kernel_rfl) rfl (fun _ _ _ h => h) (by rfl) (by assumption) ?_ ?_; rotate_left; (intro w hSw; (try dsimp only at hSw); go_simp; (try rw [if_neg (by omega)]); try with_reducible rfl); simp only [Act.put, p1, p2, p3]
 refine takeVal 4 (some 8) ?_ rfl (by kernel_rfl) (by kernel_rfl) (by kernel_rfl) rfl (fun _ _ _ h => h) (by rfl) (by assumption) ?_ ?_; rotate_left; (intro w hSw; (try dsimp only at hSw); go_simp; (try rw [if_neg (by omega)]); try with_reducible rfl); simp only [Act.put, p1, p2, p3]
 refine wpAnyH_ready (rs := [7]) (by kernel_rfl) (by simp) ?_
 refine AllReadyH.cons rfl (fun K hK => ?_) AllReadyH.nil
 go_simp
 refine (decI m _ hm0 hm1 (uh PW _ (uh BB))).mono ?_
 rintro e wi3 ⟨rfl, hb⟩
 replace A := hide ((uh A).ups hb); have sz4 := hide (hb.size); replace BB := hide (below_y (uh BB) hb); clear hb; go_wp2_with fail
 refine hK.out _ _ (⟨(uh A).cell 0 rfl, (uh A).cell 1 rfl, (uh A).cell 2 rfl, (uh A).cell 3 rfl, (uh A).cell 4 rfl, (uh A).cell 5 rfl, (uh A).cell 6 rfl⟩) (fun hHeld2 => ?_)
 clear hK K hHeld; have hHeld := hHeld2; clear hHeld2
 try simp only [Act.put, p1, p2, p3]
 refine takeVal 8 (some 12) ?_ rfl (by kernel_rfl) (by kernel_rfl) (by kernel_rfl) rfl (fun _ _ _ h => h) (by rfl) (by assumption) ?_ ?_; rotate_left; (intro w hSw; (try dsimp only at hSw); go_simp; (try rw [if_neg (by omega)]); try with_reducible rfl); simp only [Act.put, p1, p2, p3]
 refine takeVal 9 (some 3) ?_ rfl (by kernel_rfl) (by kernel_rfl) (by kernel_rfl) rfl (fun _ _ _ h => h) (by rfl) (by assumption) ?_ ?_; rotate_left; (intro w hSw; (try dsimp only at hSw); go_simp; (try rw [if_neg (by omega)]); try with_reducible rfl); simp only [Act.put, p1, p2, p3]
 refine wpAnyH_done (by kernel_rfl) ?_ _
 have Ac0_2 := (uh A).cell 0 rfl; have Ac1_2 := (uh A).cell 1 rfl; have Ac2_2 := (uh A).cell 2 rfl; have Ac3_2 := (uh A).cell 3 rfl; have Ac4_2 := (uh A).cell 4 rfl; have Ac5_2 := (uh A).cell 5 rfl; have Ac6_2 := (uh A).cell 6 rfl
 go_wp2
 go_ret
 exact ⟨rfl, uh BB⟩
set_option maxHeartbeats 4000000 in
set_option maxRecDepth 100000 in
theorem valid_false (k : Int) (n u f m : Int) (l : List Rg) (a : Option Addr) (c : Nat) (w : World) (hn0 : 0 ≤ n) (hn1 : n ≤ 100000) (hm0 : 0 ≤ m) (hm1 : m ≤ 100000) (ht : Pow w) :
  Calls Tryd.prog 30 #[.agg #[.int .i64 k, .int .i64 n, .int .i64 u, .int .i64 f, .int .i64 m, .slice a l.length c, .bool false]] w fun e w' => e = .returned (.string (valB n m)) ∧ Below w.heap.size w w' := by
 have PW : Hid (∀ W, Below w.heap.size w W → Pow W) := fun W hb => ht.below hb
 clear ht; have BB := hide (Below.refl w.heap.size w)
 obtain ⟨wi1, hA⟩ : ∃ X, X = w.alloc (.cells ([.int .i64 k, .int .i64 n, .int .i64 u, .int .i64 f, .int .i64 m, .slice a l.length c, .bool false] : List Value).toArray 30) := ⟨_, rfl⟩
 have Ax : HasObj wi1 w.heap.size 30 [.int .i64 k, .int .i64 n, .int .i64 u, .int .i64 f, .int .i64 m, .slice a l.length c, .bool false] := by rw [hA]; exact HasObj.new _ _ _
 have hbn : Below w.heap.size w wi1 := by rw [hA]; exact (Below.refl _ _).alloc (Nat.le_refl _) _
 have loA : w.heap.size ≤ w.heap.size := (uh BB).size
 have EA := hA.symm; clear hA; have sz1 := hide (hbn.size); replace BB := hide (below_y (uh BB) hbn); clear hbn; have A := hide Ax; clear Ax; have Ac0_1 := (uh A).cell 0 rfl; have Ac1_1 := (uh A).cell 1 rfl; have Ac2_1 := (uh A).cell 2 rfl; have Ac3_1 := (uh A).cell 3 rfl; have Ac4_1 := (uh A).cell 4 rfl; have Ac5_1 := (uh A).cell 5 rfl; have Ac6_1 := (uh A).cell 6 rfl
 go_enter Tryd.func30, Tryd.ntmps30
 have zn := dB_size hn0 hn1; have zm := dB_size hm0 hm1
 go_wp2
 clear Ac0_1 Ac1_1 Ac2_1 Ac3_1 Ac4_1 Ac5_1 Ac6_1 EA
 refine wp_region_held_drew (S := fun w' => w'.cell? ⟨w.heap.size, 0, none⟩ = some (.int .i64 k) ∧ w'.cell? ⟨w.heap.size, 1, none⟩ = some (.int .i64 n) ∧ w'.cell? ⟨w.heap.size, 2, none⟩ = some (.int .i64 u) ∧ w'.cell? ⟨w.heap.size, 3, none⟩ = some (.int .i64 f) ∧ w'.cell? ⟨w.heap.size, 4, none⟩ = some (.int .i64 m) ∧ w'.cell? ⟨w.heap.size, 5, none⟩ = some (.slice a l.length c) ∧ w'.cell? ⟨w.heap.size, 6, none⟩ = some (.bool false)) (by kernel_rfl) (⟨(uh A).cell 0 rfl, (uh A).cell 1 rfl, (uh A).cell 2 rfl, (uh A).cell 3 rfl, (uh A).cell 4 rfl, (uh A).cell 5 rfl, (uh A).cell 6 rfl⟩) (fun hHeld => ?_)
 replace A := hide ((uh A).drew); replace BB := hide ((uh BB).drew)
 have sz2 : Hid (wi1.heap.size ≤ wi1.drew.heap.size) := Nat.le_refl _
 refine tv 0 4 ?_; refine tv 1 5 ?_; refine tv 5 9 ?_; refine tv 6 10 ?_
 refine wpAnyH_ready (rs := [2]) (by kernel_rfl) (by simp) ?_
 refine AllReadyH.cons rfl (fun K hK => ?_) AllReadyH.nil
 go_simp
 refine (decI n _ hn0 hn1 (uh PW _ (uh BB))).mono ?_
 rintro e wi2 ⟨rfl, hb⟩
 replace A := hide ((uh A).ups hb); have sz3 := hide (hb.size); replace BB := hide (below_y (uh BB) hb); clear hb; go_wp2_with fail
 refine hK.out _ _ (⟨(uh A).cell 0 rfl, (uh A).cell 1 rfl, (uh A).cell 2 rfl, (uh A).cell 3 rfl, (uh A).cell 4 rfl, (uh A).cell 5 rfl, (uh A).cell 6 rfl⟩) (fun hHeld2 => ?_)
 clear hK K hHeld; have hHeld := hHeld2; clear hHeld2
 try simp only [Act.put, p1, p2, p3]
 refine takeVal 3 (some 7) ?_ rfl (by kernel_rfl) (by kernel_rfl) (by kernel_rfl) rfl (fun _ _ _ h => h) (by rfl) (by assumption) ?_ ?_; rotate_left; (intro w hSw; (try dsimp only at hSw); go_simp; (try rw [if_neg (by omega)]); try with_reducible rfl); simp only [Act.put, p1, p2, p3]
 refine takeVal 4 (some 8) ?_ rfl (by kernel_rfl) (by kernel_rfl) (by kernel_rfl) rfl (fun _ _ _ h => h) (by rfl) (by assumption) ?_ ?_; rotate_left; (intro w hSw; (try dsimp only at hSw); go_simp; (try rw [if_neg (by omega)]); try with_reducible rfl); simp only [Act.put, p1, p2, p3]
 refine wpAnyH_ready (rs := [7]) (by kernel_rfl) (by simp) ?_
 refine AllReadyH.cons rfl (fun K hK => ?_) AllReadyH.nil
 go_simp
 refine (decI m _ hm0 hm1 (uh PW _ (uh BB))).mono ?_
 rintro e wi3 ⟨rfl, hb⟩
 replace A := hide ((uh A).ups hb); have sz4 := hide (hb.size); replace BB := hide (below_y (uh BB) hb); clear hb; go_wp2_with fail
 refine hK.out _ _ (⟨(uh A).cell 0 rfl, (uh A).cell 1 rfl, (uh A).cell 2 rfl, (uh A).cell 3 rfl, (uh A).cell 4 rfl, (uh A).cell 5 rfl, (uh A).cell 6 rfl⟩) (fun hHeld2 => ?_)
 clear hK K hHeld; have hHeld := hHeld2; clear hHeld2
 try simp only [Act.put, p1, p2, p3]
 refine takeVal 8 (some 12) ?_ rfl (by kernel_rfl) (by kernel_rfl) (by kernel_rfl) rfl (fun _ _ _ h => h) (by rfl) (by assumption) ?_ ?_; rotate_left; (intro w hSw; (try dsimp only at hSw); go_simp; (try rw [if_neg (by omega)]); try with_reducible rfl); simp only [Act.put, p1, p2, p3]
 refine takeVal 9 (some 3) ?_ rfl (by kernel_rfl) (by kernel_rfl) (by kernel_rfl) rfl (fun _ _ _ h => h) (by rfl) (by assumption) ?_ ?_; rotate_left; (intro w hSw; (try dsimp only at hSw); go_simp; (try rw [if_neg (by omega)]); try with_reducible rfl); simp only [Act.put, p1, p2, p3]
 refine wpAnyH_done (by kernel_rfl) ?_ _
 have Ac0_2 := (uh A).cell 0 rfl; have Ac1_2 := (uh A).cell 1 rfl; have Ac2_2 := (uh A).cell 2 rfl; have Ac3_2 := (uh A).cell 3 rfl; have Ac4_2 := (uh A).cell 4 rfl; have Ac5_2 := (uh A).cell 5 rfl; have Ac6_2 := (uh A).cell 6 rfl
 go_wp2
 go_ret
 exact ⟨rfl, uh BB⟩
set_option maxHeartbeats 4000000 in
set_option maxRecDepth 100000 in
theorem search_none (k : Int) (n u f m : Int) (b : Bool) (a : Option Addr) (c : Nat) (w : World) :
  Calls Tryd.prog 31 #[.agg #[.int .i64 k, .int .i64 n, .int .i64 u, .int .i64 f, .int .i64 m, .slice a 0 c, .bool b]] w fun e w' => e = .returned (.string (⟨#[42, 32, 115, 101, 97, 114, 99, 104]⟩)) ∧ Below w.heap.size w w' := by
 have BB := hide (Below.refl w.heap.size w)
 obtain ⟨wi1, hA⟩ : ∃ X, X = w.alloc (.cells ([.int .i64 k, .int .i64 n, .int .i64 u, .int .i64 f, .int .i64 m, .slice a 0 c, .bool b] : List Value).toArray 30) := ⟨_, rfl⟩
 have Ax : HasObj wi1 w.heap.size 30 [.int .i64 k, .int .i64 n, .int .i64 u, .int .i64 f, .int .i64 m, .slice a 0 c, .bool b] := by rw [hA]; exact HasObj.new _ _ _
 have hbn : Below w.heap.size w wi1 := by rw [hA]; exact (Below.refl _ _).alloc (Nat.le_refl _) _
 have loA : w.heap.size ≤ w.heap.size := (uh BB).size
 have EA := hA.symm; clear hA; have sz1 := hide (hbn.size); replace BB := hide (below_y (uh BB) hbn); clear hbn; have A := hide Ax; clear Ax; have Ac0_1 := (uh A).cell 0 rfl; have Ac1_1 := (uh A).cell 1 rfl; have Ac2_1 := (uh A).cell 2 rfl; have Ac3_1 := (uh A).cell 3 rfl; have Ac4_1 := (uh A).cell 4 rfl; have Ac5_1 := (uh A).cell 5 rfl; have Ac6_1 := (uh A).cell 6 rfl
 go_enter Tryd.func31, Tryd.ntmps31
 go_wp2
 go_ret
 exact ⟨rfl, uh BB⟩
set_option maxHeartbeats 4000000 in
set_option maxRecDepth 100000 in
theorem search_some (k : Int) (n u f m : Int) (l : List Rg) (b : Bool) (a : Option Addr) (c : Nat) (w : World) (h0 : ¬ l.length = 0) (hs : l.length ≤ 1048576) (hr : ReadO w (.slice a l.length c) l) (ht : Pow w) :
  Calls Tryd.prog 31 #[.agg #[.int .i64 k, .int .i64 n, .int .i64 u, .int .i64 f, .int .i64 m, .slice a l.length c, .bool b]] w fun e w' => e = .returned (.string (⟨#[42, 32, 115, 101, 97, 114, 99, 104, 32]⟩ ++ sB l)) ∧ Below w.heap.size w w' := by
 have PW : Hid (∀ W, Below w.heap.size w W → Pow W) := fun W hb => ht.below hb
 clear ht; have BB := hide (Below.refl w.heap.size w)
 obtain ⟨wi1, hA⟩ : ∃ X, X = w.alloc (.cells ([.int .i64 k, .int .i64 n, .int .i64 u, .int .i64 f, .int .i64 m, .slice a l.length c, .bool b] : List Value).toArray 30) := ⟨_, rfl⟩
 have Ax : HasObj wi1 w.heap.size 30 [.int .i64 k, .int .i64 n, .int .i64 u, .int .i64 f, .int .i64 m, .slice a l.length c, .bool b] := by rw [hA]; exact HasObj.new _ _ _
 have hbn : Below w.heap.size w wi1 := by rw [hA]; exact (Below.refl _ _).alloc (Nat.le_refl _) _
 have loA : w.heap.size ≤ w.heap.size := (uh BB).size
 have EA := hA.symm; clear hA; have sz1 := hide (hbn.size); replace BB := hide (below_y (uh BB) hbn); clear hbn; have A := hide Ax; clear Ax; have Ac0_1 := (uh A).cell 0 rfl; have Ac1_1 := (uh A).cell 1 rfl; have Ac2_1 := (uh A).cell 2 rfl; have Ac3_1 := (uh A).cell 3 rfl; have Ac4_1 := (uh A).cell 4 rfl; have Ac5_1 := (uh A).cell 5 rfl; have Ac6_1 := (uh A).cell 6 rfl
 go_enter Tryd.func31, Tryd.ntmps31
 have zl := sB_size hs
 have h1 : ¬ (l.length : Int) = 0 := by omega
 have RS := hide hr; clear hr; go_wp2_with fail; clear Ac0_1 Ac1_1 Ac2_1 Ac3_1 Ac4_1 Ac5_1 Ac6_1 EA
 refine (setIt l _ _ hs ((uh RS).up (uh BB)) (uh PW _ (uh BB))).mono ?_
 rintro e wi2 ⟨rfl, hb⟩
 replace A := hide ((uh A).ups hb); have sz2 := hide (hb.size); replace BB := hide (below_y (uh BB) hb); clear hb
 go_wp2
 go_ret
 exact ⟨rfl, uh BB⟩
set_option maxHeartbeats 4000000 in
set_option maxRecDepth 100000 in
theorem right_1 (n u f m : Int) (l : List Rg) (b : Bool) (a : Option Addr) (c : Nat) (w : World) (hn0 : 0 ≤ n) (hn1 : n ≤ 100000) (hu0 : 0 ≤ u) (hu1 : u ≤ 100000) (hm0 : 0 ≤ m) (hm1 : m ≤ 100000) (hs : l.length ≤ 1048576) (hr : ReadO w (.slice a l.length c) l) (ht : Pow w) (hN : Named w) :
  Calls Tryd.prog 16 #[.agg #[.int .i64 1, .int .i64 n, .int .i64 u, .int .i64 f, .int .i64 m, .slice a l.length c, .bool b]] w fun e w' => e = .returned (.string (⟨#[42, 32]⟩ ++ dB n ++ ⟨#[32, 101, 120, 105, 115, 116, 115]⟩)) ∧ Below w.heap.size w w' := by
 have PW : Hid (∀ W, Below w.heap.size w W → Pow W) := fun W hb => ht.below hb
 clear ht
 have NM : Hid (∀ W, Below w.heap.size w W → Named W) := fun W hb => hN.below hb
 clear hN; have BB := hide (Below.refl w.heap.size w)
 obtain ⟨wi1, hA⟩ : ∃ X, X = w.alloc (.cells ([.int .i64 1, .int .i64 n, .int .i64 u, .int .i64 f, .int .i64 m, .slice a l.length c, .bool b] : List Value).toArray 30) := ⟨_, rfl⟩
 have Ax : HasObj wi1 w.heap.size 30 [.int .i64 1, .int .i64 n, .int .i64 u, .int .i64 f, .int .i64 m, .slice a l.length c, .bool b] := by rw [hA]; exact HasObj.new _ _ _
 have hbn : Below w.heap.size w wi1 := by rw [hA]; exact (Below.refl _ _).alloc (Nat.le_refl _) _
 have loA : w.heap.size ≤ w.heap.size := (uh BB).size
 have EA := hA.symm; clear hA; have sz1 := hide (hbn.size); replace BB := hide (below_y (uh BB) hbn); clear hbn; have A := hide Ax; clear Ax; have Ac0_1 := (uh A).cell 0 rfl; have Ac1_1 := (uh A).cell 1 rfl; have Ac2_1 := (uh A).cell 2 rfl; have Ac3_1 := (uh A).cell 3 rfl; have Ac4_1 := (uh A).cell 4 rfl; have Ac5_1 := (uh A).cell 5 rfl; have Ac6_1 := (uh A).cell 6 rfl
 go_enter Tryd.func16, Tryd.ntmps16
 have RS := hide hr; clear hr; have zl := sB_size hs; have zn := dB_size hn0 hn1; have zu := dB_size hu0 hu1; have zf := fB_size f; have zm := dB_size hm0 hm1; go_wp2_with fail; clear Ac0_1 Ac1_1 Ac2_1 Ac3_1 Ac4_1 Ac5_1 Ac6_1 EA
 refine (decI n _ hn0 hn1 (uh PW _ (uh BB))).mono ?_
 rintro e wi2 ⟨rfl, hb⟩
 replace A := hide ((uh A).ups hb); have sz2 := hide (hb.size); replace BB := hide (below_y (uh BB) hb); clear hb
 go_wp2
 go_ret
 exact ⟨rfl, uh BB⟩
set_option maxHeartbeats 4000000 in
set_option maxRecDepth 100000 in
theorem right_2 (n u f m : Int) (l : List Rg) (b : Bool) (a : Option Addr) (c : Nat) (w : World) (hn0 : 0 ≤ n) (hn1 : n ≤ 100000) (hu0 : 0 ≤ u) (hu1 : u ≤ 100000) (hm0 : 0 ≤ m) (hm1 : m ≤ 100000) (hs : l.length ≤ 1048576) (hr : ReadO w (.slice a l.length c) l) (ht : Pow w) (hN : Named w) :
  Calls Tryd.prog 16 #[.agg #[.int .i64 2, .int .i64 n, .int .i64 u, .int .i64 f, .int .i64 m, .slice a l.length c, .bool b]] w fun e w' => e = .returned (.string (⟨#[42, 32]⟩ ++ dB n ++ ⟨#[32, 101, 120, 112, 117, 110, 103, 101]⟩)) ∧ Below w.heap.size w w' := by
 have PW : Hid (∀ W, Below w.heap.size w W → Pow W) := fun W hb => ht.below hb
 clear ht
 have NM : Hid (∀ W, Below w.heap.size w W → Named W) := fun W hb => hN.below hb
 clear hN; have BB := hide (Below.refl w.heap.size w)
 obtain ⟨wi1, hA⟩ : ∃ X, X = w.alloc (.cells ([.int .i64 2, .int .i64 n, .int .i64 u, .int .i64 f, .int .i64 m, .slice a l.length c, .bool b] : List Value).toArray 30) := ⟨_, rfl⟩
 have Ax : HasObj wi1 w.heap.size 30 [.int .i64 2, .int .i64 n, .int .i64 u, .int .i64 f, .int .i64 m, .slice a l.length c, .bool b] := by rw [hA]; exact HasObj.new _ _ _
 have hbn : Below w.heap.size w wi1 := by rw [hA]; exact (Below.refl _ _).alloc (Nat.le_refl _) _
 have loA : w.heap.size ≤ w.heap.size := (uh BB).size
 have EA := hA.symm; clear hA; have sz1 := hide (hbn.size); replace BB := hide (below_y (uh BB) hbn); clear hbn; have A := hide Ax; clear Ax; have Ac0_1 := (uh A).cell 0 rfl; have Ac1_1 := (uh A).cell 1 rfl; have Ac2_1 := (uh A).cell 2 rfl; have Ac3_1 := (uh A).cell 3 rfl; have Ac4_1 := (uh A).cell 4 rfl; have Ac5_1 := (uh A).cell 5 rfl; have Ac6_1 := (uh A).cell 6 rfl
 go_enter Tryd.func16, Tryd.ntmps16
 have RS := hide hr; clear hr; have zl := sB_size hs; have zn := dB_size hn0 hn1; have zu := dB_size hu0 hu1; have zf := fB_size f; have zm := dB_size hm0 hm1; go_wp2_with fail; clear Ac0_1 Ac1_1 Ac2_1 Ac3_1 Ac4_1 Ac5_1 Ac6_1 EA
 refine (decI n _ hn0 hn1 (uh PW _ (uh BB))).mono ?_
 rintro e wi2 ⟨rfl, hb⟩
 replace A := hide ((uh A).ups hb); have sz2 := hide (hb.size); replace BB := hide (below_y (uh BB) hb); clear hb
 go_wp2
 go_ret
 exact ⟨rfl, uh BB⟩
set_option maxHeartbeats 4000000 in
set_option maxRecDepth 100000 in
theorem right_3 (n u f m : Int) (l : List Rg) (b : Bool) (a : Option Addr) (c : Nat) (w : World) (hn0 : 0 ≤ n) (hn1 : n ≤ 100000) (hu0 : 0 ≤ u) (hu1 : u ≤ 100000) (hm0 : 0 ≤ m) (hm1 : m ≤ 100000) (hs : l.length ≤ 1048576) (hr : ReadO w (.slice a l.length c) l) (ht : Pow w) (hN : Named w) :
  Calls Tryd.prog 16 #[.agg #[.int .i64 3, .int .i64 n, .int .i64 u, .int .i64 f, .int .i64 m, .slice a l.length c, .bool b]] w fun e w' => e = .returned (.string (fetB n u f m)) ∧ Below w.heap.size w w' := by
 have PW : Hid (∀ W, Below w.heap.size w W → Pow W) := fun W hb => ht.below hb
 clear ht
 have NM : Hid (∀ W, Below w.heap.size w W → Named W) := fun W hb => hN.below hb
 clear hN; have BB := hide (Below.refl w.heap.size w)
 obtain ⟨wi1, hA⟩ : ∃ X, X = w.alloc (.cells ([.int .i64 3, .int .i64 n, .int .i64 u, .int .i64 f, .int .i64 m, .slice a l.length c, .bool b] : List Value).toArray 30) := ⟨_, rfl⟩
 have Ax : HasObj wi1 w.heap.size 30 [.int .i64 3, .int .i64 n, .int .i64 u, .int .i64 f, .int .i64 m, .slice a l.length c, .bool b] := by rw [hA]; exact HasObj.new _ _ _
 have hbn : Below w.heap.size w wi1 := by rw [hA]; exact (Below.refl _ _).alloc (Nat.le_refl _) _
 have loA : w.heap.size ≤ w.heap.size := (uh BB).size
 have EA := hA.symm; clear hA; have sz1 := hide (hbn.size); replace BB := hide (below_y (uh BB) hbn); clear hbn; have A := hide Ax; clear Ax; have Ac0_1 := (uh A).cell 0 rfl; have Ac1_1 := (uh A).cell 1 rfl; have Ac2_1 := (uh A).cell 2 rfl; have Ac3_1 := (uh A).cell 3 rfl; have Ac4_1 := (uh A).cell 4 rfl; have Ac5_1 := (uh A).cell 5 rfl; have Ac6_1 := (uh A).cell 6 rfl
 go_enter Tryd.func16, Tryd.ntmps16
 have RS := hide hr; clear hr; have zl := sB_size hs; have zn := dB_size hn0 hn1; have zu := dB_size hu0 hu1; have zf := fB_size f; have zm := dB_size hm0 hm1; go_wp2_with fail; clear Ac0_1 Ac1_1 Ac2_1 Ac3_1 Ac4_1 Ac5_1 Ac6_1 EA
 refine (fetch_any 3 n u f m l b a c _ hn0 hn1 hu0 hu1 hm0 hm1 (uh PW _ (uh BB)) (uh NM _ (uh BB))).mono ?_
 rintro e wi2 ⟨rfl, hb⟩
 replace A := hide ((uh A).ups hb); have sz2 := hide (hb.size); replace BB := hide (below_y (uh BB) hb); clear hb
 go_wp2
 go_ret
 exact ⟨rfl, uh BB⟩
set_option maxHeartbeats 4000000 in
set_option maxRecDepth 100000 in
theorem right_4 (n u f m : Int) (l : List Rg) (b : Bool) (a : Option Addr) (c : Nat) (w : World) (hn0 : 0 ≤ n) (hn1 : n ≤ 100000) (hu0 : 0 ≤ u) (hu1 : u ≤ 100000) (hm0 : 0 ≤ m) (hm1 : m ≤ 100000) (hs : l.length ≤ 1048576) (hr : ReadO w (.slice a l.length c) l) (ht : Pow w) (hN : Named w) :
  Calls Tryd.prog 16 #[.agg #[.int .i64 4, .int .i64 n, .int .i64 u, .int .i64 f, .int .i64 m, .slice a l.length c, .bool b]] w fun e w' => e = .returned (.string (⟨#[42, 32, 118, 97, 110, 105, 115, 104, 101, 100, 32]⟩ ++ sB l)) ∧ Below w.heap.size w w' := by
 have PW : Hid (∀ W, Below w.heap.size w W → Pow W) := fun W hb => ht.below hb
 clear ht
 have NM : Hid (∀ W, Below w.heap.size w W → Named W) := fun W hb => hN.below hb
 clear hN; have BB := hide (Below.refl w.heap.size w)
 obtain ⟨wi1, hA⟩ : ∃ X, X = w.alloc (.cells ([.int .i64 4, .int .i64 n, .int .i64 u, .int .i64 f, .int .i64 m, .slice a l.length c, .bool b] : List Value).toArray 30) := ⟨_, rfl⟩
 have Ax : HasObj wi1 w.heap.size 30 [.int .i64 4, .int .i64 n, .int .i64 u, .int .i64 f, .int .i64 m, .slice a l.length c, .bool b] := by rw [hA]; exact HasObj.new _ _ _
 have hbn : Below w.heap.size w wi1 := by rw [hA]; exact (Below.refl _ _).alloc (Nat.le_refl _) _
 have loA : w.heap.size ≤ w.heap.size := (uh BB).size
 have EA := hA.symm; clear hA; have sz1 := hide (hbn.size); replace BB := hide (below_y (uh BB) hbn); clear hbn; have A := hide Ax; clear Ax; have Ac0_1 := (uh A).cell 0 rfl; have Ac1_1 := (uh A).cell 1 rfl; have Ac2_1 := (uh A).cell 2 rfl; have Ac3_1 := (uh A).cell 3 rfl; have Ac4_1 := (uh A).cell 4 rfl; have Ac5_1 := (uh A).cell 5 rfl; have Ac6_1 := (uh A).cell 6 rfl
 go_enter Tryd.func16, Tryd.ntmps16
 have RS := hide hr; clear hr; have zl := sB_size hs; have zn := dB_size hn0 hn1; have zu := dB_size hu0 hu1; have zf := fB_size f; have zm := dB_size hm0 hm1; go_wp2_with fail; clear Ac0_1 Ac1_1 Ac2_1 Ac3_1 Ac4_1 Ac5_1 Ac6_1 EA
 refine (setIt l _ _ hs ((uh RS).up (uh BB)) (uh PW _ (uh BB))).mono ?_
 rintro e wi2 ⟨rfl, hb⟩
 replace A := hide ((uh A).ups hb); have sz2 := hide (hb.size); replace BB := hide (below_y (uh BB) hb); clear hb
 go_wp2
 go_ret
 exact ⟨rfl, uh BB⟩
set_option maxHeartbeats 4000000 in
set_option maxRecDepth 100000 in
theorem right_7 (n u f m : Int) (l : List Rg) (b : Bool) (a : Option Addr) (c : Nat) (w : World) (hn0 : 0 ≤ n) (hn1 : n ≤ 100000) (hu0 : 0 ≤ u) (hu1 : u ≤ 100000) (hm0 : 0 ≤ m) (hm1 : m ≤ 100000) (hs : l.length ≤ 1048576) (hr : ReadO w (.slice a l.length c) l) (ht : Pow w) (hN : Named w) :
  Calls Tryd.prog 16 #[.agg #[.int .i64 7, .int .i64 n, .int .i64 u, .int .i64 f, .int .i64 m, .slice a l.length c, .bool b]] w fun e w' => e = .returned (.string (⟨#[111, 107]⟩)) ∧ Below w.heap.size w w' := by
 have PW : Hid (∀ W, Below w.heap.size w W → Pow W) := fun W hb => ht.below hb
 clear ht
 have NM : Hid (∀ W, Below w.heap.size w W → Named W) := fun W hb => hN.below hb
 clear hN; have BB := hide (Below.refl w.heap.size w)
 obtain ⟨wi1, hA⟩ : ∃ X, X = w.alloc (.cells ([.int .i64 7, .int .i64 n, .int .i64 u, .int .i64 f, .int .i64 m, .slice a l.length c, .bool b] : List Value).toArray 30) := ⟨_, rfl⟩
 have Ax : HasObj wi1 w.heap.size 30 [.int .i64 7, .int .i64 n, .int .i64 u, .int .i64 f, .int .i64 m, .slice a l.length c, .bool b] := by rw [hA]; exact HasObj.new _ _ _
 have hbn : Below w.heap.size w wi1 := by rw [hA]; exact (Below.refl _ _).alloc (Nat.le_refl _) _
 have loA : w.heap.size ≤ w.heap.size := (uh BB).size
 have EA := hA.symm; clear hA; have sz1 := hide (hbn.size); replace BB := hide (below_y (uh BB) hbn); clear hbn; have A := hide Ax; clear Ax; have Ac0_1 := (uh A).cell 0 rfl; have Ac1_1 := (uh A).cell 1 rfl; have Ac2_1 := (uh A).cell 2 rfl; have Ac3_1 := (uh A).cell 3 rfl; have Ac4_1 := (uh A).cell 4 rfl; have Ac5_1 := (uh A).cell 5 rfl; have Ac6_1 := (uh A).cell 6 rfl
 go_enter Tryd.func16, Tryd.ntmps16
 have RS := hide hr; clear hr; have zl := sB_size hs; have zn := dB_size hn0 hn1; have zu := dB_size hu0 hu1; have zf := fB_size f; have zm := dB_size hm0 hm1
 go_wp2
 go_ret
 exact ⟨rfl, uh BB⟩
set_option maxHeartbeats 4000000 in
set_option maxRecDepth 100000 in
theorem right_8 (n u f m : Int) (l : List Rg) (b : Bool) (a : Option Addr) (c : Nat) (w : World) (hn0 : 0 ≤ n) (hn1 : n ≤ 100000) (hu0 : 0 ≤ u) (hu1 : u ≤ 100000) (hm0 : 0 ≤ m) (hm1 : m ≤ 100000) (hs : l.length ≤ 1048576) (hr : ReadO w (.slice a l.length c) l) (ht : Pow w) (hN : Named w) :
  Calls Tryd.prog 16 #[.agg #[.int .i64 8, .int .i64 n, .int .i64 u, .int .i64 f, .int .i64 m, .slice a l.length c, .bool b]] w fun e w' => e = .returned (.string (⟨#[110, 111, 32]⟩ ++ dB n)) ∧ Below w.heap.size w w' := by
 have PW : Hid (∀ W, Below w.heap.size w W → Pow W) := fun W hb => ht.below hb
 clear ht
 have NM : Hid (∀ W, Below w.heap.size w W → Named W) := fun W hb => hN.below hb
 clear hN; have BB := hide (Below.refl w.heap.size w)
 obtain ⟨wi1, hA⟩ : ∃ X, X = w.alloc (.cells ([.int .i64 8, .int .i64 n, .int .i64 u, .int .i64 f, .int .i64 m, .slice a l.length c, .bool b] : List Value).toArray 30) := ⟨_, rfl⟩
 have Ax : HasObj wi1 w.heap.size 30 [.int .i64 8, .int .i64 n, .int .i64 u, .int .i64 f, .int .i64 m, .slice a l.length c, .bool b] := by rw [hA]; exact HasObj.new _ _ _
 have hbn : Below w.heap.size w wi1 := by rw [hA]; exact (Below.refl _ _).alloc (Nat.le_refl _) _
 have loA : w.heap.size ≤ w.heap.size := (uh BB).size
 have EA := hA.symm; clear hA; have sz1 := hide (hbn.size); replace BB := hide (below_y (uh BB) hbn); clear hbn; have A := hide Ax; clear Ax; have Ac0_1 := (uh A).cell 0 rfl; have Ac1_1 := (uh A).cell 1 rfl; have Ac2_1 := (uh A).cell 2 rfl; have Ac3_1 := (uh A).cell 3 rfl; have Ac4_1 := (uh A).cell 4 rfl; have Ac5_1 := (uh A).cell 5 rfl; have Ac6_1 := (uh A).cell 6 rfl
 go_enter Tryd.func16, Tryd.ntmps16
 have RS := hide hr; clear hr; have zl := sB_size hs; have zn := dB_size hn0 hn1; have zu := dB_size hu0 hu1; have zf := fB_size f; have zm := dB_size hm0 hm1; go_wp2_with fail; clear Ac0_1 Ac1_1 Ac2_1 Ac3_1 Ac4_1 Ac5_1 Ac6_1 EA
 refine (decI n _ hn0 hn1 (uh PW _ (uh BB))).mono ?_
 rintro e wi2 ⟨rfl, hb⟩
 replace A := hide ((uh A).ups hb); have sz2 := hide (hb.size); replace BB := hide (below_y (uh BB) hb); clear hb
 go_wp2
 go_ret
 exact ⟨rfl, uh BB⟩
set_option maxHeartbeats 4000000 in
set_option maxRecDepth 100000 in
theorem right_9 (n u f m : Int) (l : List Rg) (b : Bool) (a : Option Addr) (c : Nat) (w : World) (hn0 : 0 ≤ n) (hn1 : n ≤ 100000) (hu0 : 0 ≤ u) (hu1 : u ≤ 100000) (hm0 : 0 ≤ m) (hm1 : m ≤ 100000) (hs : l.length ≤ 1048576) (hr : ReadO w (.slice a l.length c) l) (ht : Pow w) (hN : Named w) :
  Calls Tryd.prog 16 #[.agg #[.int .i64 9, .int .i64 n, .int .i64 u, .int .i64 f, .int .i64 m, .slice a l.length c, .bool b]] w fun e w' => e = .returned (.string (⟨#[98, 121, 101]⟩)) ∧ Below w.heap.size w w' := by
 have PW : Hid (∀ W, Below w.heap.size w W → Pow W) := fun W hb => ht.below hb
 clear ht
 have NM : Hid (∀ W, Below w.heap.size w W → Named W) := fun W hb => hN.below hb
 clear hN; have BB := hide (Below.refl w.heap.size w)
 obtain ⟨wi1, hA⟩ : ∃ X, X = w.alloc (.cells ([.int .i64 9, .int .i64 n, .int .i64 u, .int .i64 f, .int .i64 m, .slice a l.length c, .bool b] : List Value).toArray 30) := ⟨_, rfl⟩
 have Ax : HasObj wi1 w.heap.size 30 [.int .i64 9, .int .i64 n, .int .i64 u, .int .i64 f, .int .i64 m, .slice a l.length c, .bool b] := by rw [hA]; exact HasObj.new _ _ _
 have hbn : Below w.heap.size w wi1 := by rw [hA]; exact (Below.refl _ _).alloc (Nat.le_refl _) _
 have loA : w.heap.size ≤ w.heap.size := (uh BB).size
 have EA := hA.symm; clear hA; have sz1 := hide (hbn.size); replace BB := hide (below_y (uh BB) hbn); clear hbn; have A := hide Ax; clear Ax; have Ac0_1 := (uh A).cell 0 rfl; have Ac1_1 := (uh A).cell 1 rfl; have Ac2_1 := (uh A).cell 2 rfl; have Ac3_1 := (uh A).cell 3 rfl; have Ac4_1 := (uh A).cell 4 rfl; have Ac5_1 := (uh A).cell 5 rfl; have Ac6_1 := (uh A).cell 6 rfl
 go_enter Tryd.func16, Tryd.ntmps16
 have RS := hide hr; clear hr; have zl := sB_size hs; have zn := dB_size hn0 hn1; have zu := dB_size hu0 hu1; have zf := fB_size f; have zm := dB_size hm0 hm1
 go_wp2
 go_ret
 exact ⟨rfl, uh BB⟩
set_option maxHeartbeats 4000000 in
set_option maxRecDepth 100000 in
theorem right_5t (n u f m : Int) (l : List Rg) (a : Option Addr) (c : Nat) (w : World) (hn0 : 0 ≤ n) (hn1 : n ≤ 100000) (hu0 : 0 ≤ u) (hu1 : u ≤ 100000) (hm0 : 0 ≤ m) (hm1 : m ≤ 100000) (hs : l.length ≤ 1048576) (hr : ReadO w (.slice a l.length c) l) (ht : Pow w) (hN : Named w) :
  Calls Tryd.prog 16 #[.agg #[.int .i64 5, .int .i64 n, .int .i64 u, .int .i64 f, .int .i64 m, .slice a l.length c, .bool true]] w fun e w' => e = .returned (.string (valB n m ++ ⟨#[32, 97, 108, 108]⟩)) ∧ Below w.heap.size w w' := by
 have PW : Hid (∀ W, Below w.heap.size w W → Pow W) := fun W hb => ht.below hb
 clear ht
 have NM : Hid (∀ W, Below w.heap.size w W → Named W) := fun W hb => hN.below hb
 clear hN; have BB := hide (Below.refl w.heap.size w)
 obtain ⟨wi1, hA⟩ : ∃ X, X = w.alloc (.cells ([.int .i64 5, .int .i64 n, .int .i64 u, .int .i64 f, .int .i64 m, .slice a l.length c, .bool true] : List Value).toArray 30) := ⟨_, rfl⟩
 have Ax : HasObj wi1 w.heap.size 30 [.int .i64 5, .int .i64 n, .int .i64 u, .int .i64 f, .int .i64 m, .slice a l.length c, .bool true] := by rw [hA]; exact HasObj.new _ _ _
 have hbn : Below w.heap.size w wi1 := by rw [hA]; exact (Below.refl _ _).alloc (Nat.le_refl _) _
 have loA : w.heap.size ≤ w.heap.size := (uh BB).size
 have EA := hA.symm; clear hA; have sz1 := hide (hbn.size); replace BB := hide (below_y (uh BB) hbn); clear hbn; have A := hide Ax; clear Ax; have Ac0_1 := (uh A).cell 0 rfl; have Ac1_1 := (uh A).cell 1 rfl; have Ac2_1 := (uh A).cell 2 rfl; have Ac3_1 := (uh A).cell 3 rfl; have Ac4_1 := (uh A).cell 4 rfl; have Ac5_1 := (uh A).cell 5 rfl; have Ac6_1 := (uh A).cell 6 rfl
 go_enter Tryd.func16, Tryd.ntmps16
 have RS := hide hr; clear hr; have zl := sB_size hs; have zn := dB_size hn0 hn1; have zu := dB_size hu0 hu1; have zf := fB_size f; have zm := dB_size hm0 hm1; go_wp2_with fail; clear Ac0_1 Ac1_1 Ac2_1 Ac3_1 Ac4_1 Ac5_1 Ac6_1 EA
 refine (valid_true 5 n u f m l a c _ hn0 hn1 hm0 hm1 (uh PW _ (uh BB))).mono ?_
 rintro e wi2 ⟨rfl, hb⟩
 replace A := hide ((uh A).ups hb); have sz2 := hide (hb.size); replace BB := hide (below_y (uh BB) hb); clear hb
 go_wp2
 go_ret
 exact ⟨rfl, uh BB⟩
set_option maxHeartbeats 4000000 in
set_option maxRecDepth 100000 in
theorem right_5f (n u f m : Int) (l : List Rg) (a : Option Addr) (c : Nat) (w : World) (hn0 : 0 ≤ n) (hn1 : n ≤ 100000) (hu0 : 0 ≤ u) (hu1 : u ≤ 100000) (hm0 : 0 ≤ m) (hm1 : m ≤ 100000) (hs : l.length ≤ 1048576) (hr : ReadO w (.slice a l.length c) l) (ht : Pow w) (hN : Named w) :
  Calls Tryd.prog 16 #[.agg #[.int .i64 5, .int .i64 n, .int .i64 u, .int .i64 f, .int .i64 m, .slice a l.length c, .bool false]] w fun e w' => e = .returned (.string (valB n m)) ∧ Below w.heap.size w w' := by
 have PW : Hid (∀ W, Below w.heap.size w W → Pow W) := fun W hb => ht.below hb
 clear ht
 have NM : Hid (∀ W, Below w.heap.size w W → Named W) := fun W hb => hN.below hb
 clear hN; have BB := hide (Below.refl w.heap.size w)
 obtain ⟨wi1, hA⟩ : ∃ X, X = w.alloc (.cells ([.int .i64 5, .int .i64 n, .int .i64 u, .int .i64 f, .int .i64 m, .slice a l.length c, .bool false] : List Value).toArray 30) := ⟨_, rfl⟩
 have Ax : HasObj wi1 w.heap.size 30 [.int .i64 5, .int .i64 n, .int .i64 u, .int .i64 f, .int .i64 m, .slice a l.length c, .bool false] := by rw [hA]; exact HasObj.new _ _ _
 have hbn : Below w.heap.size w wi1 := by rw [hA]; exact (Below.refl _ _).alloc (Nat.le_refl _) _
 have loA : w.heap.size ≤ w.heap.size := (uh BB).size
 have EA := hA.symm; clear hA; have sz1 := hide (hbn.size); replace BB := hide (below_y (uh BB) hbn); clear hbn; have A := hide Ax; clear Ax; have Ac0_1 := (uh A).cell 0 rfl; have Ac1_1 := (uh A).cell 1 rfl; have Ac2_1 := (uh A).cell 2 rfl; have Ac3_1 := (uh A).cell 3 rfl; have Ac4_1 := (uh A).cell 4 rfl; have Ac5_1 := (uh A).cell 5 rfl; have Ac6_1 := (uh A).cell 6 rfl
 go_enter Tryd.func16, Tryd.ntmps16
 have RS := hide hr; clear hr; have zl := sB_size hs; have zn := dB_size hn0 hn1; have zu := dB_size hu0 hu1; have zf := fB_size f; have zm := dB_size hm0 hm1; go_wp2_with fail; clear Ac0_1 Ac1_1 Ac2_1 Ac3_1 Ac4_1 Ac5_1 Ac6_1 EA
 refine (valid_false 5 n u f m l a c _ hn0 hn1 hm0 hm1 (uh PW _ (uh BB))).mono ?_
 rintro e wi2 ⟨rfl, hb⟩
 replace A := hide ((uh A).ups hb); have sz2 := hide (hb.size); replace BB := hide (below_y (uh BB) hb); clear hb
 go_wp2
 go_ret
 exact ⟨rfl, uh BB⟩
set_option maxHeartbeats 4000000 in
set_option maxRecDepth 100000 in
theorem right_6n (n u f m : Int) (b : Bool) (a : Option Addr) (c : Nat) (w : World) (hn0 : 0 ≤ n) (hn1 : n ≤ 100000) (hu0 : 0 ≤ u) (hu1 : u ≤ 100000) (hm0 : 0 ≤ m) (hm1 : m ≤ 100000) (ht : Pow w) (hN : Named w) :
  Calls Tryd.prog 16 #[.agg #[.int .i64 6, .int .i64 n, .int .i64 u, .int .i64 f, .int .i64 m, .slice a 0 c, .bool b]] w fun e w' => e = .returned (.string (⟨#[42, 32, 115, 101, 97, 114, 99, 104]⟩)) ∧ Below w.heap.size w w' := by
 have PW : Hid (∀ W, Below w.heap.size w W → Pow W) := fun W hb => ht.below hb
 clear ht
 have NM : Hid (∀ W, Below w.heap.size w W → Named W) := fun W hb => hN.below hb
 clear hN; have BB := hide (Below.refl w.heap.size w)
 obtain ⟨wi1, hA⟩ : ∃ X, X = w.alloc (.cells ([.int .i64 6, .int .i64 n, .int .i64 u, .int .i64 f, .int .i64 m, .slice a 0 c, .bool b] : List Value).toArray 30) := ⟨_, rfl⟩
 have Ax : HasObj wi1 w.heap.size 30 [.int .i64 6, .int .i64 n, .int .i64 u, .int .i64 f, .int .i64 m, .slice a 0 c, .bool b] := by rw [hA]; exact HasObj.new _ _ _
 have hbn : Below w.heap.size w wi1 := by rw [hA]; exact (Below.refl _ _).alloc (Nat.le_refl _) _
 have loA : w.heap.size ≤ w.heap.size := (uh BB).size
 have EA := hA.symm; clear hA; have sz1 := hide (hbn.size); replace BB := hide (below_y (uh BB) hbn); clear hbn; have A := hide Ax; clear Ax; have Ac0_1 := (uh A).cell 0 rfl; have Ac1_1 := (uh A).cell 1 rfl; have Ac2_1 := (uh A).cell 2 rfl; have Ac3_1 := (uh A).cell 3 rfl; have Ac4_1 := (uh A).cell 4 rfl; have Ac5_1 := (uh A).cell 5 rfl; have Ac6_1 := (uh A).cell 6 rfl
 go_enter Tryd.func16, Tryd.ntmps16
 have zn := dB_size hn0 hn1; have zu := dB_size hu0 hu1; have zf := fB_size f; have zm := dB_size hm0 hm1; go_wp2_with fail; clear Ac0_1 Ac1_1 Ac2_1 Ac3_1 Ac4_1 Ac5_1 Ac6_1 EA
 refine (search_none 6 n u f m b a c _).mono ?_
 rintro e wi2 ⟨rfl, hb⟩
 replace A := hide ((uh A).ups hb); have sz2 := hide (hb.size); replace BB := hide (below_y (uh BB) hb); clear hb
 go_wp2
 go_ret
 exact ⟨rfl, uh BB⟩
set_option maxHeartbeats 4000000 in
set_option maxRecDepth 100000 in
theorem right_6s (n u f m : Int) (l : List Rg) (b : Bool) (a : Option Addr) (c : Nat) (w : World) (hn0 : 0 ≤ n) (hn1 : n ≤ 100000) (hu0 : 0 ≤ u) (hu1 : u ≤ 100000) (hm0 : 0 ≤ m) (hm1 : m ≤ 100000) (hs : l.length ≤ 1048576) (hr : ReadO w (.slice a l.length c) l) (ht : Pow w) (hN : Named w) (h0 : ¬ l.length = 0) :
  Calls Tryd.prog 16 #[.agg #[.int .i64 6, .int .i64 n, .int .i64 u, .int .i64 f, .int .i64 m, .slice a l.length c, .bool b]] w fun e w' => e = .returned (.string (⟨#[42, 32, 115, 101, 97, 114, 99, 104, 32]⟩ ++ sB l)) ∧ Below w.heap.size w w' := by
 have PW : Hid (∀ W, Below w.heap.size w W → Pow W) := fun W hb => ht.below hb
 clear ht
 have NM : Hid (∀ W, Below w.heap.size w W → Named W) := fun W hb => hN.below hb
 clear hN; have BB := hide (Below.refl w.heap.size w)
 obtain ⟨wi1, hA⟩ : ∃ X, X = w.alloc (.cells ([.int .i64 6, .int .i64 n, .int .i64 u, .int .i64 f, .int .i64 m, .slice a l.length c, .bool b] : List Value).toArray 30) := ⟨_, rfl⟩
 have Ax : HasObj wi1 w.heap.size 30 [.int .i64 6, .int .i64 n, .int .i64 u, .int .i64 f, .int .i64 m, .slice a l.length c, .bool b] := by rw [hA]; exact HasObj.new _ _ _
 have hbn : Below w.heap.size w wi1 := by rw [hA]; exact (Below.refl _ _).alloc (Nat.le_refl _) _
 have loA : w.heap.size ≤ w.heap.size := (uh BB).size
 have EA := hA.symm; clear hA; have sz1 := hide (hbn.size); replace BB := hide (below_y (uh BB) hbn); clear hbn; have A := hide Ax; clear Ax; have Ac0_1 := (uh A).cell 0 rfl; have Ac1_1 := (uh A).cell 1 rfl; have Ac2_1 := (uh A).cell 2 rfl; have Ac3_1 := (uh A).cell 3 rfl; have Ac4_1 := (uh A).cell 4 rfl; have Ac5_1 := (uh A).cell 5 rfl; have Ac6_1 := (uh A).cell 6 rfl
 go_enter Tryd.func16, Tryd.ntmps16
 have RS := hide hr; clear hr; have zl := sB_size hs; have zn := dB_size hn0 hn1; have zu := dB_size hu0 hu1; have zf := fB_size f; have zm := dB_size hm0 hm1; go_wp2_with fail; clear Ac0_1 Ac1_1 Ac2_1 Ac3_1 Ac4_1 Ac5_1 Ac6_1 EA
 refine (search_some 6 n u f m l b a c _ h0 hs ((uh RS).up (uh BB)) (uh PW _ (uh BB))).mono ?_
 rintro e wi2 ⟨rfl, hb⟩
 replace A := hide ((uh A).ups hb); have sz2 := hide (hb.size); replace BB := hide (below_y (uh BB) hb); clear hb
 go_wp2
 go_ret
 exact ⟨rfl, uh BB⟩
theorem right_any (x : Ln) (a : Option Addr) (c : Nat) (w : World) (ho : lineOk x = true) (hs : x.set.length ≤ 1048576) (hr : ReadO w (.slice a x.set.length c) x.set) (ht : Pow w) (hN : Named w) :
  Calls Tryd.prog 16 #[lnV x (.slice a x.set.length c)] w fun e w' => e = .returned (.string (ltB x)) ∧ Below w.heap.size w w' := by
 obtain ⟨⟨n0, n1⟩, ⟨u0, u1⟩, ⟨m0, m1⟩, hk⟩ := line_nums ho
 obtain ⟨k, n, u, f, m, l, b⟩ := x
 dsimp only at *
 have n1 : n ≤ 100000 := by omega
 have u1 : u ≤ 100000 := by omega
 rcases kinds9 hk with h | h | h | h | h | h | h | h | h <;> subst h
 ·exact right_1 n u f m l b a c w n0 n1 u0 u1 m0 m1 hs hr ht hN
 ·exact right_2 n u f m l b a c w n0 n1 u0 u1 m0 m1 hs hr ht hN
 ·exact right_3 n u f m l b a c w n0 n1 u0 u1 m0 m1 hs hr ht hN
 ·exact right_4 n u f m l b a c w n0 n1 u0 u1 m0 m1 hs hr ht hN
 ·cases b
  ·exact right_5f n u f m l a c w n0 n1 u0 u1 m0 m1 hs hr ht hN
  ·exact right_5t n u f m l a c w n0 n1 u0 u1 m0 m1 hs hr ht hN
 ·by_cases h0 : l.length = 0
  ·have e : ltB ⟨6, n, u, f, m, l, b⟩ = ⟨#[42, 32, 115, 101, 97, 114, 99, 104]⟩ := by simp [ltB, h0]
   rw [e]
   rw [h0]
   exact right_6n n u f m b a c w n0 n1 u0 u1 m0 m1 ht hN
  ·have e : ltB ⟨6, n, u, f, m, l, b⟩ = ⟨#[42, 32, 115, 101, 97, 114, 99, 104, 32]⟩ ++ sB l := by simp [ltB, h0]
   rw [e]
   exact right_6s n u f m l b a c w n0 n1 u0 u1 m0 m1 hs hr ht hN h0
 ·exact right_7 n u f m l b a c w n0 n1 u0 u1 m0 m1 hs hr ht hN
 ·exact right_8 n u f m l b a c w n0 n1 u0 u1 m0 m1 hs hr ht hN
 ·exact right_9 n u f m l b a c w n0 n1 u0 u1 m0 m1 hs hr ht hN
set_option maxHeartbeats 4000000 in
set_option maxRecDepth 100000 in
theorem impl_LineText_any (x : Ln) (v : Value) (B : Nat) (w : World) (hs : x.set.length ≤ 1048576) (hr : OwnR B w v x.set) (ht : Pow w) (hN : Named w) :
  Calls Tryd.prog 7 #[lnV x v] w fun e w' => e = .returned (.tuple #[.string (ltV x).1, .bool (ltV x).2]) ∧ Below w.heap.size w w' := by
 obtain ⟨a, c, rfl⟩ := g_shape hr
 have RS := hide hr; clear hr
 have PW : Hid (∀ W, Below w.heap.size w W → Pow W) := fun W hb => ht.below hb
 clear ht
 have NM : Hid (∀ W, Below w.heap.size w W → Named W) := fun W hb => hN.below hb
 clear hN; have BB := hide (Below.refl w.heap.size w)
 obtain ⟨wo1, hA⟩ : ∃ X, X = w.alloc (.cells ([.int .i64 x.kind, .int .i64 x.num, .int .i64 x.uid, .int .i64 x.flags, .int .i64 x.mod, .slice a x.set.length c, .bool x.all] : List Value).toArray 30) := ⟨_, rfl⟩
 have Ax : HasObj wo1 w.heap.size 30 [.int .i64 x.kind, .int .i64 x.num, .int .i64 x.uid, .int .i64 x.flags, .int .i64 x.mod, .slice a x.set.length c, .bool x.all] := by rw [hA]; exact HasObj.new _ _ _
 have hbn : Below w.heap.size w wo1 := by rw [hA]; exact (Below.refl _ _).alloc (Nat.le_refl _) _
 have loA : w.heap.size ≤ w.heap.size := (uh BB).size
 have EA := hA.symm; clear hA; have sz1 := hide (hbn.size); replace BB := hide (below_y (uh BB) hbn); clear hbn; have A := hide Ax; clear Ax; have Ac0_1 := (uh A).cell 0 rfl; have Ac1_1 := (uh A).cell 1 rfl; have Ac2_1 := (uh A).cell 2 rfl; have Ac3_1 := (uh A).cell 3 rfl; have Ac4_1 := (uh A).cell 4 rfl; have Ac5_1 := (uh A).cell 5 rfl; have Ac6_1 := (uh A).cell 6 rfl
 go_enter Tryd.func7, Tryd.ntmps7
 go_wp2_with fail; clear Ac0_1 Ac1_1 Ac2_1 Ac3_1 Ac4_1 Ac5_1 Ac6_1 EA
 refine (impl_LineOk_any x _ _ _ hs ((uh RS).up (uh BB))).mono ?_
 rintro e wo2 ⟨rfl, hb⟩
 replace A := hide ((uh A).ups hb); have sz2 := hide (hb.size); replace BB := hide (below_y (uh BB) hb); clear hb
 cases ho : lineOk x with
 | false =>
  have V : Hid (ltV x = (⟨#[]⟩, false)) := by show _ = _; unfold ltV; rw [ho]; rfl
  go_wp2
  go_returns
  exact ⟨by rw [uh V] <;> rfl, uh BB⟩
 | true =>
  have V : Hid (ltV x = (ltB x, true)) := by show _ = _; unfold ltV; rw [ho]; rfl
  have Ac0_2 := (uh A).cell 0 rfl; have Ac1_2 := (uh A).cell 1 rfl; have Ac2_2 := (uh A).cell 2 rfl; have Ac3_2 := (uh A).cell 3 rfl; have Ac4_2 := (uh A).cell 4 rfl; have Ac5_2 := (uh A).cell 5 rfl; have Ac6_2 := (uh A).cell 6 rfl; go_wp2_with fail; clear Ac0_2 Ac1_2 Ac2_2 Ac3_2 Ac4_2 Ac5_2 Ac6_2
  refine (right_any x a c _ ho hs ((uh RS).up (uh BB)).wide (uh PW _ (uh BB)) (uh NM _ (uh BB))).mono ?_
  rintro e wo3 ⟨rfl, hb⟩
  replace A := hide ((uh A).ups hb); have sz3 := hide (hb.size); replace BB := hide (below_y (uh BB) hb); clear hb
  go_wp2
  go_returns
  exact ⟨by rw [uh V] <;> rfl, uh BB⟩
end Go.Proofs.YtgdihceikhkddaaDoor
