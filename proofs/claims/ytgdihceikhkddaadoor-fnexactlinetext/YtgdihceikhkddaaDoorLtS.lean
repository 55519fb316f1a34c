/- The specification's LineText. Made by gen_linetext.py. -/
import Derived.Test.YtgdihceikhkddaaDoorTv
import Derived.Test.YtgdihceikhkddaaDoorLtCon
namespace Go.Proofs.YtgdihceikhkddaaDoor
open Go.RowKit Go.ChangeShapes Go.WideShapes Go.ChangeAt Go.Deep
open Plain
set_option linter.unusedVariables false
set_option linter.unusedSimpArgs false

set_option maxHeartbeats 4000000 in
set_option maxRecDepth 100000 in
theorem spec_text_1 (n u f m : Int) (l : List Rg) (b : Bool) (a : Option Addr) (c : Nat) (w : World) (hn0 : 0 ≤ n) (hn1 : n ≤ 100000) (hu0 : 0 ≤ u) (hu1 : u ≤ 100000) (hm0 : 0 ≤ m) (hm1 : m ≤ 100000) (hs : l.length ≤ 1048576) (B : Nat) (hr : OwnR B w (.slice a l.length c) l) (ho : lineOk ⟨1, n, u, f, m, l, b⟩ = true) :
  Calls Tryd.prog 5 #[.agg #[.int .i64 1, .int .i64 n, .int .i64 u, .int .i64 f, .int .i64 m, .slice a l.length c, .bool b]] w fun e w' => e = .returned (.tuple #[.string (⟨#[42, 32]⟩ ++ dB n ++ ⟨#[32, 101, 120, 105, 115, 116, 115]⟩), .bool true]) ∧ Below w.heap.size w w' := by
 have RS := hide hr; clear hr; have zn := dB_size hn0 hn1; have zu := dB_size hu0 hu1; have zf := fB_size f; have zm := dB_size hm0 hm1; have zl := sB_size hs; have BB := hide (Below.refl w.heap.size w)
 obtain ⟨ws1, hA⟩ : ∃ X, X = w.alloc (.cells ([.int .i64 1, .int .i64 n, .int .i64 u, .int .i64 f, .int .i64 m, .slice a l.length c, .bool b] : List Value).toArray 30) := ⟨_, rfl⟩
 have Ax : HasObj ws1 w.heap.size 30 [.int .i64 1, .int .i64 n, .int .i64 u, .int .i64 f, .int .i64 m, .slice a l.length c, .bool b] := by rw [hA]; exact HasObj.new _ _ _
 have hbn : Below w.heap.size w ws1 := by rw [hA]; exact (Below.refl _ _).alloc (Nat.le_refl _) _
 have loA : w.heap.size ≤ w.heap.size := (uh BB).size
 have EA := hA.symm; clear hA; have sz1 := hide (hbn.size); replace BB := hide (below_y (uh BB) hbn); clear hbn; have A := hide Ax; clear Ax; have Ac0_1 := (uh A).cell 0 rfl; have Ac1_1 := (uh A).cell 1 rfl; have Ac2_1 := (uh A).cell 2 rfl; have Ac3_1 := (uh A).cell 3 rfl; have Ac4_1 := (uh A).cell 4 rfl; have Ac5_1 := (uh A).cell 5 rfl; have Ac6_1 := (uh A).cell 6 rfl
 go_enter Tryd.func5, Tryd.ntmps5
 go_wp2_with fail; clear Ac0_1 Ac1_1 Ac2_1 Ac3_1 Ac4_1 Ac5_1 Ac6_1 EA
 refine (spec_LineOk_any ⟨1, n, u, f, m, l, b⟩ _ _ _ hs ((uh RS).up (uh BB))).mono ?_
 rintro e ws2 ⟨rfl, hb⟩
 replace A := hide ((uh A).ups hb); have sz2 := hide (hb.size); replace BB := hide (below_y (uh BB) hb); clear hb
 rw [ho]
 have Ac0_2 := (uh A).cell 0 rfl; have Ac1_2 := (uh A).cell 1 rfl; have Ac2_2 := (uh A).cell 2 rfl; have Ac3_2 := (uh A).cell 3 rfl; have Ac4_2 := (uh A).cell 4 rfl; have Ac5_2 := (uh A).cell 5 rfl; have Ac6_2 := (uh A).cell 6 rfl; go_wp2_with fail; clear Ac0_2 Ac1_2 Ac2_2 Ac3_2 Ac4_2 Ac5_2 Ac6_2
 refine (decS n _ hn0 hn1).mono ?_
 rintro e ws3 ⟨rfl, hb⟩
 replace A := hide ((uh A).ups hb); have sz3 := hide (hb.size); replace BB := hide (below_y (uh BB) hb); clear hb; have Ac0_3 := (uh A).cell 0 rfl; have Ac1_3 := (uh A).cell 1 rfl; have Ac2_3 := (uh A).cell 2 rfl; have Ac3_3 := (uh A).cell 3 rfl; have Ac4_3 := (uh A).cell 4 rfl; have Ac5_3 := (uh A).cell 5 rfl; have Ac6_3 := (uh A).cell 6 rfl
 go_wp2
 go_returns
 exact ⟨rfl, uh BB⟩
set_option maxHeartbeats 4000000 in
set_option maxRecDepth 100000 in
theorem spec_text_2 (n u f m : Int) (l : List Rg) (b : Bool) (a : Option Addr) (c : Nat) (w : World) (hn0 : 0 ≤ n) (hn1 : n ≤ 100000) (hu0 : 0 ≤ u) (hu1 : u ≤ 100000) (hm0 : 0 ≤ m) (hm1 : m ≤ 100000) (hs : l.length ≤ 1048576) (B : Nat) (hr : OwnR B w (.slice a l.length c) l) (ho : lineOk ⟨2, n, u, f, m, l, b⟩ = true) :
  Calls Tryd.prog 5 #[.agg #[.int .i64 2, .int .i64 n, .int .i64 u, .int .i64 f, .int .i64 m, .slice a l.length c, .bool b]] w fun e w' => e = .returned (.tuple #[.string (⟨#[42, 32]⟩ ++ dB n ++ ⟨#[32, 101, 120, 112, 117, 110, 103, 101]⟩), .bool true]) ∧ Below w.heap.size w w' := by
 have RS := hide hr; clear hr; have zn := dB_size hn0 hn1; have zu := dB_size hu0 hu1; have zf := fB_size f; have zm := dB_size hm0 hm1; have zl := sB_size hs; have BB := hide (Below.refl w.heap.size w)
 obtain ⟨ws1, hA⟩ : ∃ X, X = w.alloc (.cells ([.int .i64 2, .int .i64 n, .int .i64 u, .int .i64 f, .int .i64 m, .slice a l.length c, .bool b] : List Value).toArray 30) := ⟨_, rfl⟩
 have Ax : HasObj ws1 w.heap.size 30 [.int .i64 2, .int .i64 n, .int .i64 u, .int .i64 f, .int .i64 m, .slice a l.length c, .bool b] := by rw [hA]; exact HasObj.new _ _ _
 have hbn : Below w.heap.size w ws1 := by rw [hA]; exact (Below.refl _ _).alloc (Nat.le_refl _) _
 have loA : w.heap.size ≤ w.heap.size := (uh BB).size
 have EA := hA.symm; clear hA; have sz1 := hide (hbn.size); replace BB := hide (below_y (uh BB) hbn); clear hbn; have A := hide Ax; clear Ax; have Ac0_1 := (uh A).cell 0 rfl; have Ac1_1 := (uh A).cell 1 rfl; have Ac2_1 := (uh A).cell 2 rfl; have Ac3_1 := (uh A).cell 3 rfl; have Ac4_1 := (uh A).cell 4 rfl; have Ac5_1 := (uh A).cell 5 rfl; have Ac6_1 := (uh A).cell 6 rfl
 go_enter Tryd.func5, Tryd.ntmps5
 go_wp2_with fail; clear Ac0_1 Ac1_1 Ac2_1 Ac3_1 Ac4_1 Ac5_1 Ac6_1 EA
 refine (spec_LineOk_any ⟨2, n, u, f, m, l, b⟩ _ _ _ hs ((uh RS).up (uh BB))).mono ?_
 rintro e ws2 ⟨rfl, hb⟩
 replace A := hide ((uh A).ups hb); have sz2 := hide (hb.size); replace BB := hide (below_y (uh BB) hb); clear hb
 rw [ho]
 have Ac0_2 := (uh A).cell 0 rfl; have Ac1_2 := (uh A).cell 1 rfl; have Ac2_2 := (uh A).cell 2 rfl; have Ac3_2 := (uh A).cell 3 rfl; have Ac4_2 := (uh A).cell 4 rfl; have Ac5_2 := (uh A).cell 5 rfl; have Ac6_2 := (uh A).cell 6 rfl; go_wp2_with fail; clear Ac0_2 Ac1_2 Ac2_2 Ac3_2 Ac4_2 Ac5_2 Ac6_2
 refine (decS n _ hn0 hn1).mono ?_
 rintro e ws3 ⟨rfl, hb⟩
 replace A := hide ((uh A).ups hb); have sz3 := hide (hb.size); replace BB := hide (below_y (uh BB) hb); clear hb; have Ac0_3 := (uh A).cell 0 rfl; have Ac1_3 := (uh A).cell 1 rfl; have Ac2_3 := (uh A).cell 2 rfl; have Ac3_3 := (uh A).cell 3 rfl; have Ac4_3 := (uh A).cell 4 rfl; have Ac5_3 := (uh A).cell 5 rfl; have Ac6_3 := (uh A).cell 6 rfl
 go_wp2
 go_returns
 exact ⟨rfl, uh BB⟩
set_option maxHeartbeats 4000000 in
set_option maxRecDepth 100000 in
theorem spec_text_3 (n u f m : Int) (l : List Rg) (b : Bool) (a : Option Addr) (c : Nat) (w : World) (hn0 : 0 ≤ n) (hn1 : n ≤ 100000) (hu0 : 0 ≤ u) (hu1 : u ≤ 100000) (hm0 : 0 ≤ m) (hm1 : m ≤ 100000) (hs : l.length ≤ 1048576) (B : Nat) (hr : OwnR B w (.slice a l.length c) l) (ho : lineOk ⟨3, n, u, f, m, l, b⟩ = true) :
  Calls Tryd.prog 5 #[.agg #[.int .i64 3, .int .i64 n, .int .i64 u, .int .i64 f, .int .i64 m, .slice a l.length c, .bool b]] w fun e w' => e = .returned (.tuple #[.string (fetB n u f m), .bool true]) ∧ Below w.heap.size w w' := by
 have RS := hide hr; clear hr; have zn := dB_size hn0 hn1; have zu := dB_size hu0 hu1; have zf := fB_size f; have zm := dB_size hm0 hm1; have zl := sB_size hs; have BB := hide (Below.refl w.heap.size w)
 obtain ⟨ws1, hA⟩ : ∃ X, X = w.alloc (.cells ([.int .i64 3, .int .i64 n, .int .i64 u, .int .i64 f, .int .i64 m, .slice a l.length c, .bool b] : List Value).toArray 30) := ⟨_, rfl⟩
 have Ax : HasObj ws1 w.heap.size 30 [.int .i64 3, .int .i64 n, .int .i64 u, .int .i64 f, .int .i64 m, .slice a l.length c, .bool b] := by rw [hA]; exact HasObj.new _ _ _
 have hbn : Below w.heap.size w ws1 := by rw [hA]; exact (Below.refl _ _).alloc (Nat.le_refl _) _
 have loA : w.heap.size ≤ w.heap.size := (uh BB).size
 have EA := hA.symm; clear hA; have sz1 := hide (hbn.size); replace BB := hide (below_y (uh BB) hbn); clear hbn; have A := hide Ax; clear Ax; have Ac0_1 := (uh A).cell 0 rfl; have Ac1_1 := (uh A).cell 1 rfl; have Ac2_1 := (uh A).cell 2 rfl; have Ac3_1 := (uh A).cell 3 rfl; have Ac4_1 := (uh A).cell 4 rfl; have Ac5_1 := (uh A).cell 5 rfl; have Ac6_1 := (uh A).cell 6 rfl
 go_enter Tryd.func5, Tryd.ntmps5
 go_wp2_with fail; clear Ac0_1 Ac1_1 Ac2_1 Ac3_1 Ac4_1 Ac5_1 Ac6_1 EA
 refine (spec_LineOk_any ⟨3, n, u, f, m, l, b⟩ _ _ _ hs ((uh RS).up (uh BB))).mono ?_
 rintro e ws2 ⟨rfl, hb⟩
 replace A := hide ((uh A).ups hb); have sz2 := hide (hb.size); replace BB := hide (below_y (uh BB) hb); clear hb
 rw [ho]
 have Ac0_2 := (uh A).cell 0 rfl; have Ac1_2 := (uh A).cell 1 rfl; have Ac2_2 := (uh A).cell 2 rfl; have Ac3_2 := (uh A).cell 3 rfl; have Ac4_2 := (uh A).cell 4 rfl; have Ac5_2 := (uh A).cell 5 rfl; have Ac6_2 := (uh A).cell 6 rfl; go_wp2_with fail; clear Ac0_2 Ac1_2 Ac2_2 Ac3_2 Ac4_2 Ac5_2 Ac6_2
 refine (decS n _ hn0 hn1).mono ?_
 rintro e ws3 ⟨rfl, hb⟩
 replace A := hide ((uh A).ups hb); have sz3 := hide (hb.size); replace BB := hide (below_y (uh BB) hb); clear hb; have Ac0_3 := (uh A).cell 0 rfl; have Ac1_3 := (uh A).cell 1 rfl; have Ac2_3 := (uh A).cell 2 rfl; have Ac3_3 := (uh A).cell 3 rfl; have Ac4_3 := (uh A).cell 4 rfl; have Ac5_3 := (uh A).cell 5 rfl; have Ac6_3 := (uh A).cell 6 rfl
 go_wp2
 clear Ac0_3 Ac1_3 Ac2_3 Ac3_3 Ac4_3 Ac5_3 Ac6_3
 refine wp_region_held_drew (S := fun w' => w'.cell? ⟨w.heap.size, 0, none⟩ = some (.int .i64 3) ∧ w'.cell? ⟨w.heap.size, 1, none⟩ = some (.int .i64 n) ∧ w'.cell? ⟨w.heap.size, 2, none⟩ = some (.int .i64 u) ∧ w'.cell? ⟨w.heap.size, 3, none⟩ = some (.int .i64 f) ∧ w'.cell? ⟨w.heap.size, 4, none⟩ = some (.int .i64 m) ∧ w'.cell? ⟨w.heap.size, 5, none⟩ = some (.slice a l.length c) ∧ w'.cell? ⟨w.heap.size, 6, none⟩ = some (.bool b)) (by kernel_rfl) (⟨(uh A).cell 0 rfl, (uh A).cell 1 rfl, (uh A).cell 2 rfl, (uh A).cell 3 rfl, (uh A).cell 4 rfl, (uh A).cell 5 rfl, (uh A).cell 6 rfl⟩) (fun hHeld => ?_)
 replace A := hide ((uh A).drew); replace BB := hide ((uh BB).drew)
 have sz4 : Hid (ws3.heap.size ≤ ws3.drew.heap.size) := Nat.le_refl _
 refine takeVal 0 (some 26) ?_ rfl (by kernel_rfl) (by kernel_rfl) (by kernel_rfl) rfl (fun _ _ _ h => h) (by rfl) (by assumption) ?_ ?_; rotate_left; (intro w hSw; (try dsimp only at hSw); go_simp; (try rw [if_neg (by omega)]); try with_reducible rfl); simp only [Act.put, p1, p2, p3]
 refine takeVal 1 (some 27) ?_ rfl (by kernel_rfl) (by kernel_rfl) (by kernel_rfl) rfl (fun _ _ _ h => h) (by rfl) (by assumption) ?_ ?_; rotate_left; (intro w hSw; (try dsimp only at hSw); go_simp; (try rw [if_neg (by omega)]); try with_reducible rfl); simp only [Act.put, p1, p2, p3]
 refine takeVal 2 (some 28) ?_ rfl (by kernel_rfl) (by kernel_rfl) (by kernel_rfl) rfl (fun _ _ _ h => h) (by rfl) (by assumption) ?_ ?_; rotate_left; (intro w hSw; (try dsimp only at hSw); go_simp; (try rw [if_neg (by omega)]); try with_reducible rfl); simp only [Act.put, p1, p2, p3]
 refine takeVal 3 (some 29) ?_ rfl (by kernel_rfl) (by kernel_rfl) (by kernel_rfl) rfl (fun _ _ _ h => h) (by rfl) (by assumption) ?_ ?_; rotate_left; (intro w hSw; (try dsimp only at hSw); go_simp; (try rw [if_neg (by omega)]); try with_reducible rfl); simp only [Act.put, p1, p2, p3]
 refine takeVal 4 (some 30) ?_ rfl (by kernel_rfl) (by kernel_rfl) (by kernel_rfl) rfl (fun _ _ _ h => h) (by rfl) (by assumption) ?_ ?_; rotate_left; (intro w hSw; (try dsimp only at hSw); go_simp; (try rw [if_neg (by omega)]); try with_reducible rfl); simp only [Act.put, p1, p2, p3]
 refine takeVal 8 (some 34) ?_ rfl (by kernel_rfl) (by kernel_rfl) (by kernel_rfl) rfl (fun _ _ _ h => h) (by rfl) (by assumption) ?_ ?_; rotate_left; (intro w hSw; (try dsimp only at hSw); go_simp; (try rw [if_neg (by omega)]); try with_reducible rfl); simp only [Act.put, p1, p2, p3]
 refine takeVal 9 (some 35) ?_ rfl (by kernel_rfl) (by kernel_rfl) (by kernel_rfl) rfl (fun _ _ _ h => h) (by rfl) (by assumption) ?_ ?_; rotate_left; (intro w hSw; (try dsimp only at hSw); go_simp; (try rw [if_neg (by omega)]); try with_reducible rfl); simp only [Act.put, p1, p2, p3]
 refine takeVal 13 (some 39) ?_ rfl (by kernel_rfl) (by kernel_rfl) (by kernel_rfl) rfl (fun _ _ _ h => h) (by rfl) (by assumption) ?_ ?_; rotate_left; (intro w hSw; (try dsimp only at hSw); go_simp; (try rw [if_neg (by omega)]); try with_reducible rfl); simp only [Act.put, p1, p2, p3]
 refine takeVal 14 (some 40) ?_ rfl (by kernel_rfl) (by kernel_rfl) (by kernel_rfl) rfl (fun _ _ _ h => h) (by rfl) (by assumption) ?_ ?_; rotate_left; (intro w hSw; (try dsimp only at hSw); go_simp; (try rw [if_neg (by omega)]); try with_reducible rfl); simp only [Act.put, p1, p2, p3]
 refine wpAnyH_ready (rs := [5]) (by kernel_rfl) (by simp) ?_
 refine AllReadyH.cons rfl (fun K hK => ?_) AllReadyH.nil
 go_simp
 refine (decS u _ hu0 hu1).mono ?_
 rintro e ws4 ⟨rfl, hb⟩
 replace A := hide ((uh A).ups hb); have sz5 := hide (hb.size); replace BB := hide (below_y (uh BB) hb); clear hb; go_wp2_with fail
 refine hK.out _ _ (⟨(uh A).cell 0 rfl, (uh A).cell 1 rfl, (uh A).cell 2 rfl, (uh A).cell 3 rfl, (uh A).cell 4 rfl, (uh A).cell 5 rfl, (uh A).cell 6 rfl⟩) (fun hHeld2 => ?_)
 clear hK K hHeld; have hHeld := hHeld2; clear hHeld2
 try simp only [Act.put, p1, p2, p3]
 refine takeVal 6 (some 32) ?_ rfl (by kernel_rfl) (by kernel_rfl) (by kernel_rfl) rfl (fun _ _ _ h => h) (by rfl) (by assumption) ?_ ?_; rotate_left; (intro w hSw; (try dsimp only at hSw); go_simp; (try rw [if_neg (by omega)]); try with_reducible rfl); simp only [Act.put, p1, p2, p3]
 refine takeVal 7 (some 33) ?_ rfl (by kernel_rfl) (by kernel_rfl) (by kernel_rfl) rfl (fun _ _ _ h => h) (by rfl) (by assumption) ?_ ?_; rotate_left; (intro w hSw; (try dsimp only at hSw); go_simp; (try rw [if_neg (by omega)]); try with_reducible rfl); simp only [Act.put, p1, p2, p3]
 refine wpAnyH_ready (rs := [10]) (by kernel_rfl) (by simp) ?_
 refine AllReadyH.cons rfl (fun K hK => ?_) AllReadyH.nil
 go_simp
 refine (flaS f _).mono ?_
 rintro e ws5 ⟨rfl, hb⟩
 replace A := hide ((uh A).ups hb); have sz6 := hide (hb.size); replace BB := hide (below_y (uh BB) hb); clear hb; go_wp2_with fail
 refine hK.out _ _ (⟨(uh A).cell 0 rfl, (uh A).cell 1 rfl, (uh A).cell 2 rfl, (uh A).cell 3 rfl, (uh A).cell 4 rfl, (uh A).cell 5 rfl, (uh A).cell 6 rfl⟩) (fun hHeld2 => ?_)
 clear hK K hHeld; have hHeld := hHeld2; clear hHeld2
 try simp only [Act.put, p1, p2, p3]
 refine takeVal 11 (some 37) ?_ rfl (by kernel_rfl) (by kernel_rfl) (by kernel_rfl) rfl (fun _ _ _ h => h) (by rfl) (by assumption) ?_ ?_; rotate_left; (intro w hSw; (try dsimp only at hSw); go_simp; (try rw [if_neg (by omega)]); try with_reducible rfl); simp only [Act.put, p1, p2, p3]
 refine takeVal 12 (some 38) ?_ rfl (by kernel_rfl) (by kernel_rfl) (by kernel_rfl) rfl (fun _ _ _ h => h) (by rfl) (by assumption) ?_ ?_; rotate_left; (intro w hSw; (try dsimp only at hSw); go_simp; (try rw [if_neg (by omega)]); try with_reducible rfl); simp only [Act.put, p1, p2, p3]
 refine wpAnyH_ready (rs := [15]) (by kernel_rfl) (by simp) ?_
 refine AllReadyH.cons rfl (fun K hK => ?_) AllReadyH.nil
 go_simp
 refine (decS m _ hm0 hm1).mono ?_
 rintro e ws6 ⟨rfl, hb⟩
 replace A := hide ((uh A).ups hb); have sz7 := hide (hb.size); replace BB := hide (below_y (uh BB) hb); clear hb; go_wp2_with fail
 refine hK.out _ _ (⟨(uh A).cell 0 rfl, (uh A).cell 1 rfl, (uh A).cell 2 rfl, (uh A).cell 3 rfl, (uh A).cell 4 rfl, (uh A).cell 5 rfl, (uh A).cell 6 rfl⟩) (fun hHeld2 => ?_)
 clear hK K hHeld; have hHeld := hHeld2; clear hHeld2
 try simp only [Act.put, p1, p2, p3]
 refine takeVal 16 (some 42) ?_ rfl (by kernel_rfl) (by kernel_rfl) (by kernel_rfl) rfl (fun _ _ _ h => h) (by rfl) (by assumption) ?_ ?_; rotate_left; (intro w hSw; (try dsimp only at hSw); go_simp; (try rw [if_neg (by omega)]); try with_reducible rfl); simp only [Act.put, p1, p2, p3]
 refine takeVal 17 (some 43) ?_ rfl (by kernel_rfl) (by kernel_rfl) (by kernel_rfl) rfl (fun _ _ _ h => h) (by rfl) (by assumption) ?_ ?_; rotate_left; (intro w hSw; (try dsimp only at hSw); go_simp; (try rw [if_neg (by omega)]); try with_reducible rfl); simp only [Act.put, p1, p2, p3]
 refine takeVal 18 (some 2) ?_ rfl (by kernel_rfl) (by kernel_rfl) (by kernel_rfl) rfl (fun _ _ _ h => h) (by rfl) (by assumption) ?_ ?_; rotate_left; (intro w hSw; (try dsimp only at hSw); go_simp; (try rw [if_neg (by omega)]); try with_reducible rfl); simp only [Act.put, p1, p2, p3]
 refine takeVal 19 (some 3) ?_ rfl (by kernel_rfl) (by kernel_rfl) (by kernel_rfl) rfl (fun _ _ _ h => h) (by rfl) (by assumption) ?_ ?_; rotate_left; (intro w hSw; (try dsimp only at hSw); go_simp; (try rw [if_neg (by omega)]); try with_reducible rfl); simp only [Act.put, p1, p2, p3]
 refine wpAnyH_done (by kernel_rfl) ?_ _
 go_wp2
 go_returns
 exact ⟨rfl, uh BB⟩
set_option maxHeartbeats 4000000 in
set_option maxRecDepth 100000 in
theorem spec_text_4 (n u f m : Int) (l : List Rg) (b : Bool) (a : Option Addr) (c : Nat) (w : World) (hn0 : 0 ≤ n) (hn1 : n ≤ 100000) (hu0 : 0 ≤ u) (hu1 : u ≤ 100000) (hm0 : 0 ≤ m) (hm1 : m ≤ 100000) (hs : l.length ≤ 1048576) (B : Nat) (hr : OwnR B w (.slice a l.length c) l) (ho : lineOk ⟨4, n, u, f, m, l, b⟩ = true) :
  Calls Tryd.prog 5 #[.agg #[.int .i64 4, .int .i64 n, .int .i64 u, .int .i64 f, .int .i64 m, .slice a l.length c, .bool b]] w fun e w' => e = .returned (.tuple #[.string (⟨#[42, 32, 118, 97, 110, 105, 115, 104, 101, 100, 32]⟩ ++ sB l), .bool true]) ∧ Below w.heap.size w w' := by
 have RS := hide hr; clear hr; have zn := dB_size hn0 hn1; have zu := dB_size hu0 hu1; have zf := fB_size f; have zm := dB_size hm0 hm1; have zl := sB_size hs; have BB := hide (Below.refl w.heap.size w)
 obtain ⟨ws1, hA⟩ : ∃ X, X = w.alloc (.cells ([.int .i64 4, .int .i64 n, .int .i64 u, .int .i64 f, .int .i64 m, .slice a l.length c, .bool b] : List Value).toArray 30) := ⟨_, rfl⟩
 have Ax : HasObj ws1 w.heap.size 30 [.int .i64 4, .int .i64 n, .int .i64 u, .int .i64 f, .int .i64 m, .slice a l.length c, .bool b] := by rw [hA]; exact HasObj.new _ _ _
 have hbn : Below w.heap.size w ws1 := by rw [hA]; exact (Below.refl _ _).alloc (Nat.le_refl _) _
 have loA : w.heap.size ≤ w.heap.size := (uh BB).size
 have EA := hA.symm; clear hA; have sz1 := hide (hbn.size); replace BB := hide (below_y (uh BB) hbn); clear hbn; have A := hide Ax; clear Ax; have Ac0_1 := (uh A).cell 0 rfl; have Ac1_1 := (uh A).cell 1 rfl; have Ac2_1 := (uh A).cell 2 rfl; have Ac3_1 := (uh A).cell 3 rfl; have Ac4_1 := (uh A).cell 4 rfl; have Ac5_1 := (uh A).cell 5 rfl; have Ac6_1 := (uh A).cell 6 rfl
 go_enter Tryd.func5, Tryd.ntmps5
 go_wp2_with fail; clear Ac0_1 Ac1_1 Ac2_1 Ac3_1 Ac4_1 Ac5_1 Ac6_1 EA
 refine (spec_LineOk_any ⟨4, n, u, f, m, l, b⟩ _ _ _ hs ((uh RS).up (uh BB))).mono ?_
 rintro e ws2 ⟨rfl, hb⟩
 replace A := hide ((uh A).ups hb); have sz2 := hide (hb.size); replace BB := hide (below_y (uh BB) hb); clear hb
 rw [ho]
 have Ac0_2 := (uh A).cell 0 rfl; have Ac1_2 := (uh A).cell 1 rfl; have Ac2_2 := (uh A).cell 2 rfl; have Ac3_2 := (uh A).cell 3 rfl; have Ac4_2 := (uh A).cell 4 rfl; have Ac5_2 := (uh A).cell 5 rfl; have Ac6_2 := (uh A).cell 6 rfl; go_wp2_with fail; clear Ac0_2 Ac1_2 Ac2_2 Ac3_2 Ac4_2 Ac5_2 Ac6_2
 refine (decS n _ hn0 hn1).mono ?_
 rintro e ws3 ⟨rfl, hb⟩
 replace A := hide ((uh A).ups hb); have sz3 := hide (hb.size); replace BB := hide (below_y (uh BB) hb); clear hb; have Ac0_3 := (uh A).cell 0 rfl; have Ac1_3 := (uh A).cell 1 rfl; have Ac2_3 := (uh A).cell 2 rfl; have Ac3_3 := (uh A).cell 3 rfl; have Ac4_3 := (uh A).cell 4 rfl; have Ac5_3 := (uh A).cell 5 rfl; have Ac6_3 := (uh A).cell 6 rfl; go_wp2_with fail; clear Ac0_3 Ac1_3 Ac2_3 Ac3_3 Ac4_3 Ac5_3 Ac6_3
 refine (setSt l _ _ _ hs ((uh RS).up (uh BB))).mono ?_
 rintro e ws4 ⟨rfl, hb⟩
 replace A := hide ((uh A).ups hb); have sz4 := hide (hb.size); replace BB := hide (below_y (uh BB) hb); clear hb
 go_wp2
 go_returns
 exact ⟨rfl, uh BB⟩
set_option maxHeartbeats 4000000 in
set_option maxRecDepth 100000 in
theorem spec_text_7 (n u f m : Int) (l : List Rg) (b : Bool) (a : Option Addr) (c : Nat) (w : World) (hn0 : 0 ≤ n) (hn1 : n ≤ 100000) (hu0 : 0 ≤ u) (hu1 : u ≤ 100000) (hm0 : 0 ≤ m) (hm1 : m ≤ 100000) (hs : l.length ≤ 1048576) (B : Nat) (hr : OwnR B w (.slice a l.length c) l) (ho : lineOk ⟨7, n, u, f, m, l, b⟩ = true) :
  Calls Tryd.prog 5 #[.agg #[.int .i64 7, .int .i64 n, .int .i64 u, .int .i64 f, .int .i64 m, .slice a l.length c, .bool b]] w fun e w' => e = .returned (.tuple #[.string (⟨#[111, 107]⟩), .bool true]) ∧ Below w.heap.size w w' := by
 have RS := hide hr; clear hr; have zn := dB_size hn0 hn1; have zu := dB_size hu0 hu1; have zf := fB_size f; have zm := dB_size hm0 hm1; have zl := sB_size hs; have BB := hide (Below.refl w.heap.size w)
 obtain ⟨ws1, hA⟩ : ∃ X, X = w.alloc (.cells ([.int .i64 7, .int .i64 n, .int .i64 u, .int .i64 f, .int .i64 m, .slice a l.length c, .bool b] : List Value).toArray 30) := ⟨_, rfl⟩
 have Ax : HasObj ws1 w.heap.size 30 [.int .i64 7, .int .i64 n, .int .i64 u, .int .i64 f, .int .i64 m, .slice a l.length c, .bool b] := by rw [hA]; exact HasObj.new _ _ _
 have hbn : Below w.heap.size w ws1 := by rw [hA]; exact (Below.refl _ _).alloc (Nat.le_refl _) _
 have loA : w.heap.size ≤ w.heap.size := (uh BB).size
 have EA := hA.symm; clear hA; have sz1 := hide (hbn.size); replace BB := hide (below_y (uh BB) hbn); clear hbn; have A := hide Ax; clear Ax; have Ac0_1 := (uh A).cell 0 rfl; have Ac1_1 := (uh A).cell 1 rfl; have Ac2_1 := (uh A).cell 2 rfl; have Ac3_1 := (uh A).cell 3 rfl; have Ac4_1 := (uh A).cell 4 rfl; have Ac5_1 := (uh A).cell 5 rfl; have Ac6_1 := (uh A).cell 6 rfl
 go_enter Tryd.func5, Tryd.ntmps5
 go_wp2_with fail; clear Ac0_1 Ac1_1 Ac2_1 Ac3_1 Ac4_1 Ac5_1 Ac6_1 EA
 refine (spec_LineOk_any ⟨7, n, u, f, m, l, b⟩ _ _ _ hs ((uh RS).up (uh BB))).mono ?_
 rintro e ws2 ⟨rfl, hb⟩
 replace A := hide ((uh A).ups hb); have sz2 := hide (hb.size); replace BB := hide (below_y (uh BB) hb); clear hb
 rw [ho]
 have Ac0_2 := (uh A).cell 0 rfl; have Ac1_2 := (uh A).cell 1 rfl; have Ac2_2 := (uh A).cell 2 rfl; have Ac3_2 := (uh A).cell 3 rfl; have Ac4_2 := (uh A).cell 4 rfl; have Ac5_2 := (uh A).cell 5 rfl; have Ac6_2 := (uh A).cell 6 rfl; go_wp2_with fail; clear Ac0_2 Ac1_2 Ac2_2 Ac3_2 Ac4_2 Ac5_2 Ac6_2
 refine (decS n _ hn0 hn1).mono ?_
 rintro e ws3 ⟨rfl, hb⟩
 replace A := hide ((uh A).ups hb); have sz3 := hide (hb.size); replace BB := hide (below_y (uh BB) hb); clear hb; have Ac0_3 := (uh A).cell 0 rfl; have Ac1_3 := (uh A).cell 1 rfl; have Ac2_3 := (uh A).cell 2 rfl; have Ac3_3 := (uh A).cell 3 rfl; have Ac4_3 := (uh A).cell 4 rfl; have Ac5_3 := (uh A).cell 5 rfl; have Ac6_3 := (uh A).cell 6 rfl
 go_wp2
 go_returns
 exact ⟨rfl, uh BB⟩
set_option maxHeartbeats 4000000 in
set_option maxRecDepth 100000 in
theorem spec_text_8 (n u f m : Int) (l : List Rg) (b : Bool) (a : Option Addr) (c : Nat) (w : World) (hn0 : 0 ≤ n) (hn1 : n ≤ 100000) (hu0 : 0 ≤ u) (hu1 : u ≤ 100000) (hm0 : 0 ≤ m) (hm1 : m ≤ 100000) (hs : l.length ≤ 1048576) (B : Nat) (hr : OwnR B w (.slice a l.length c) l) (ho : lineOk ⟨8, n, u, f, m, l, b⟩ = true) :
  Calls Tryd.prog 5 #[.agg #[.int .i64 8, .int .i64 n, .int .i64 u, .int .i64 f, .int .i64 m, .slice a l.length c, .bool b]] w fun e w' => e = .returned (.tuple #[.string (⟨#[110, 111, 32]⟩ ++ dB n), .bool true]) ∧ Below w.heap.size w w' := by
 have RS := hide hr; clear hr; have zn := dB_size hn0 hn1; have zu := dB_size hu0 hu1; have zf := fB_size f; have zm := dB_size hm0 hm1; have zl := sB_size hs; have BB := hide (Below.refl w.heap.size w)
 obtain ⟨ws1, hA⟩ : ∃ X, X = w.alloc (.cells ([.int .i64 8, .int .i64 n, .int .i64 u, .int .i64 f, .int .i64 m, .slice a l.length c, .bool b] : List Value).toArray 30) := ⟨_, rfl⟩
 have Ax : HasObj ws1 w.heap.size 30 [.int .i64 8, .int .i64 n, .int .i64 u, .int .i64 f, .int .i64 m, .slice a l.length c, .bool b] := by rw [hA]; exact HasObj.new _ _ _
 have hbn : Below w.heap.size w ws1 := by rw [hA]; exact (Below.refl _ _).alloc (Nat.le_refl _) _
 have loA : w.heap.size ≤ w.heap.size := (uh BB).size
 have EA := hA.symm; clear hA; have sz1 := hide (hbn.size); replace BB := hide (below_y (uh BB) hbn); clear hbn; have A := hide Ax; clear Ax; have Ac0_1 := (uh A).cell 0 rfl; have Ac1_1 := (uh A).cell 1 rfl; have Ac2_1 := (uh A).cell 2 rfl; have Ac3_1 := (uh A).cell 3 rfl; have Ac4_1 := (uh A).cell 4 rfl; have Ac5_1 := (uh A).cell 5 rfl; have Ac6_1 := (uh A).cell 6 rfl
 go_enter Tryd.func5, Tryd.ntmps5
 go_wp2_with fail; clear Ac0_1 Ac1_1 Ac2_1 Ac3_1 Ac4_1 Ac5_1 Ac6_1 EA
 refine (spec_LineOk_any ⟨8, n, u, f, m, l, b⟩ _ _ _ hs ((uh RS).up (uh BB))).mono ?_
 rintro e ws2 ⟨rfl, hb⟩
 replace A := hide ((uh A).ups hb); have sz2 := hide (hb.size); replace BB := hide (below_y (uh BB) hb); clear hb
 rw [ho]
 have Ac0_2 := (uh A).cell 0 rfl; have Ac1_2 := (uh A).cell 1 rfl; have Ac2_2 := (uh A).cell 2 rfl; have Ac3_2 := (uh A).cell 3 rfl; have Ac4_2 := (uh A).cell 4 rfl; have Ac5_2 := (uh A).cell 5 rfl; have Ac6_2 := (uh A).cell 6 rfl; go_wp2_with fail; clear Ac0_2 Ac1_2 Ac2_2 Ac3_2 Ac4_2 Ac5_2 Ac6_2
 refine (decS n _ hn0 hn1).mono ?_
 rintro e ws3 ⟨rfl, hb⟩
 replace A := hide ((uh A).ups hb); have sz3 := hide (hb.size); replace BB := hide (below_y (uh BB) hb); clear hb; have Ac0_3 := (uh A).cell 0 rfl; have Ac1_3 := (uh A).cell 1 rfl; have Ac2_3 := (uh A).cell 2 rfl; have Ac3_3 := (uh A).cell 3 rfl; have Ac4_3 := (uh A).cell 4 rfl; have Ac5_3 := (uh A).cell 5 rfl; have Ac6_3 := (uh A).cell 6 rfl
 go_wp2
 go_returns
 exact ⟨rfl, uh BB⟩
set_option maxHeartbeats 4000000 in
set_option maxRecDepth 100000 in
theorem spec_text_9 (n u f m : Int) (l : List Rg) (b : Bool) (a : Option Addr) (c : Nat) (w : World) (hn0 : 0 ≤ n) (hn1 : n ≤ 100000) (hu0 : 0 ≤ u) (hu1 : u ≤ 100000) (hm0 : 0 ≤ m) (hm1 : m ≤ 100000) (hs : l.length ≤ 1048576) (B : Nat) (hr : OwnR B w (.slice a l.length c) l) (ho : lineOk ⟨9, n, u, f, m, l, b⟩ = true) :
  Calls Tryd.prog 5 #[.agg #[.int .i64 9, .int .i64 n, .int .i64 u, .int .i64 f, .int .i64 m, .slice a l.length c, .bool b]] w fun e w' => e = .returned (.tuple #[.string (⟨#[98, 121, 101]⟩), .bool true]) ∧ Below w.heap.size w w' := by
 have RS := hide hr; clear hr; have zn := dB_size hn0 hn1; have zu := dB_size hu0 hu1; have zf := fB_size f; have zm := dB_size hm0 hm1; have zl := sB_size hs; have BB := hide (Below.refl w.heap.size w)
 obtain ⟨ws1, hA⟩ : ∃ X, X = w.alloc (.cells ([.int .i64 9, .int .i64 n, .int .i64 u, .int .i64 f, .int .i64 m, .slice a l.length c, .bool b] : List Value).toArray 30) := ⟨_, rfl⟩
 have Ax : HasObj ws1 w.heap.size 30 [.int .i64 9, .int .i64 n, .int .i64 u, .int .i64 f, .int .i64 m, .slice a l.length c, .bool b] := by rw [hA]; exact HasObj.new _ _ _
 have hbn : Below w.heap.size w ws1 := by rw [hA]; exact (Below.refl _ _).alloc (Nat.le_refl _) _
 have loA : w.heap.size ≤ w.heap.size := (uh BB).size
 have EA := hA.symm; clear hA; have sz1 := hide (hbn.size); replace BB := hide (below_y (uh BB) hbn); clear hbn; have A := hide Ax; clear Ax; have Ac0_1 := (uh A).cell 0 rfl; have Ac1_1 := (uh A).cell 1 rfl; have Ac2_1 := (uh A).cell 2 rfl; have Ac3_1 := (uh A).cell 3 rfl; have Ac4_1 := (uh A).cell 4 rfl; have Ac5_1 := (uh A).cell 5 rfl; have Ac6_1 := (uh A).cell 6 rfl
 go_enter Tryd.func5, Tryd.ntmps5
 go_wp2_with fail; clear Ac0_1 Ac1_1 Ac2_1 Ac3_1 Ac4_1 Ac5_1 Ac6_1 EA
 refine (spec_LineOk_any ⟨9, n, u, f, m, l, b⟩ _ _ _ hs ((uh RS).up (uh BB))).mono ?_
 rintro e ws2 ⟨rfl, hb⟩
 replace A := hide ((uh A).ups hb); have sz2 := hide (hb.size); replace BB := hide (below_y (uh BB) hb); clear hb
 rw [ho]
 have Ac0_2 := (uh A).cell 0 rfl; have Ac1_2 := (uh A).cell 1 rfl; have Ac2_2 := (uh A).cell 2 rfl; have Ac3_2 := (uh A).cell 3 rfl; have Ac4_2 := (uh A).cell 4 rfl; have Ac5_2 := (uh A).cell 5 rfl; have Ac6_2 := (uh A).cell 6 rfl; go_wp2_with fail; clear Ac0_2 Ac1_2 Ac2_2 Ac3_2 Ac4_2 Ac5_2 Ac6_2
 refine (decS n _ hn0 hn1).mono ?_
 rintro e ws3 ⟨rfl, hb⟩
 replace A := hide ((uh A).ups hb); have sz3 := hide (hb.size); replace BB := hide (below_y (uh BB) hb); clear hb; have Ac0_3 := (uh A).cell 0 rfl; have Ac1_3 := (uh A).cell 1 rfl; have Ac2_3 := (uh A).cell 2 rfl; have Ac3_3 := (uh A).cell 3 rfl; have Ac4_3 := (uh A).cell 4 rfl; have Ac5_3 := (uh A).cell 5 rfl; have Ac6_3 := (uh A).cell 6 rfl
 go_wp2
 go_returns
 exact ⟨rfl, uh BB⟩
set_option maxHeartbeats 4000000 in
set_option maxRecDepth 100000 in
theorem spec_text_5t (n u f m : Int) (l : List Rg) (a : Option Addr) (c : Nat) (w : World) (hn0 : 0 ≤ n) (hn1 : n ≤ 100000) (hu0 : 0 ≤ u) (hu1 : u ≤ 100000) (hm0 : 0 ≤ m) (hm1 : m ≤ 100000) (hs : l.length ≤ 1048576) (B : Nat) (hr : OwnR B w (.slice a l.length c) l) (ho : lineOk ⟨5, n, u, f, m, l, true⟩ = true) :
  Calls Tryd.prog 5 #[.agg #[.int .i64 5, .int .i64 n, .int .i64 u, .int .i64 f, .int .i64 m, .slice a l.length c, .bool true]] w fun e w' => e = .returned (.tuple #[.string (valB n m ++ ⟨#[32, 97, 108, 108]⟩), .bool true]) ∧ Below w.heap.size w w' := by
 have RS := hide hr; clear hr; have zn := dB_size hn0 hn1; have zu := dB_size hu0 hu1; have zf := fB_size f; have zm := dB_size hm0 hm1; have zl := sB_size hs; have BB := hide (Below.refl w.heap.size w)
 obtain ⟨ws1, hA⟩ : ∃ X, X = w.alloc (.cells ([.int .i64 5, .int .i64 n, .int .i64 u, .int .i64 f, .int .i64 m, .slice a l.length c, .bool true] : List Value).toArray 30) := ⟨_, rfl⟩
 have Ax : HasObj ws1 w.heap.size 30 [.int .i64 5, .int .i64 n, .int .i64 u, .int .i64 f, .int .i64 m, .slice a l.length c, .bool true] := by rw [hA]; exact HasObj.new _ _ _
 have hbn : Below w.heap.size w ws1 := by rw [hA]; exact (Below.refl _ _).alloc (Nat.le_refl _) _
 have loA : w.heap.size ≤ w.heap.size := (uh BB).size
 have EA := hA.symm; clear hA; have sz1 := hide (hbn.size); replace BB := hide (below_y (uh BB) hbn); clear hbn; have A := hide Ax; clear Ax; have Ac0_1 := (uh A).cell 0 rfl; have Ac1_1 := (uh A).cell 1 rfl; have Ac2_1 := (uh A).cell 2 rfl; have Ac3_1 := (uh A).cell 3 rfl; have Ac4_1 := (uh A).cell 4 rfl; have Ac5_1 := (uh A).cell 5 rfl; have Ac6_1 := (uh A).cell 6 rfl
 go_enter Tryd.func5, Tryd.ntmps5
 go_wp2_with fail; clear Ac0_1 Ac1_1 Ac2_1 Ac3_1 Ac4_1 Ac5_1 Ac6_1 EA
 refine (spec_LineOk_any ⟨5, n, u, f, m, l, true⟩ _ _ _ hs ((uh RS).up (uh BB))).mono ?_
 rintro e ws2 ⟨rfl, hb⟩
 replace A := hide ((uh A).ups hb); have sz2 := hide (hb.size); replace BB := hide (below_y (uh BB) hb); clear hb
 rw [ho]
 have Ac0_2 := (uh A).cell 0 rfl; have Ac1_2 := (uh A).cell 1 rfl; have Ac2_2 := (uh A).cell 2 rfl; have Ac3_2 := (uh A).cell 3 rfl; have Ac4_2 := (uh A).cell 4 rfl; have Ac5_2 := (uh A).cell 5 rfl; have Ac6_2 := (uh A).cell 6 rfl; go_wp2_with fail; clear Ac0_2 Ac1_2 Ac2_2 Ac3_2 Ac4_2 Ac5_2 Ac6_2
 refine (decS n _ hn0 hn1).mono ?_
 rintro e ws3 ⟨rfl, hb⟩
 replace A := hide ((uh A).ups hb); have sz3 := hide (hb.size); replace BB := hide (below_y (uh BB) hb); clear hb; have Ac0_3 := (uh A).cell 0 rfl; have Ac1_3 := (uh A).cell 1 rfl; have Ac2_3 := (uh A).cell 2 rfl; have Ac3_3 := (uh A).cell 3 rfl; have Ac4_3 := (uh A).cell 4 rfl; have Ac5_3 := (uh A).cell 5 rfl; have Ac6_3 := (uh A).cell 6 rfl; go_wp2_with fail; clear Ac0_3 Ac1_3 Ac2_3 Ac3_3 Ac4_3 Ac5_3 Ac6_3
 refine (decS m _ hm0 hm1).mono ?_
 rintro e ws4 ⟨rfl, hb⟩
 replace A := hide ((uh A).ups hb); have sz4 := hide (hb.size); replace BB := hide (below_y (uh BB) hb); clear hb; have Ac0_4 := (uh A).cell 0 rfl; have Ac1_4 := (uh A).cell 1 rfl; have Ac2_4 := (uh A).cell 2 rfl; have Ac3_4 := (uh A).cell 3 rfl; have Ac4_4 := (uh A).cell 4 rfl; have Ac5_4 := (uh A).cell 5 rfl; have Ac6_4 := (uh A).cell 6 rfl
 go_wp2
 go_returns
 exact ⟨rfl, uh BB⟩
set_option maxHeartbeats 4000000 in
set_option maxRecDepth 100000 in
theorem spec_text_5f (n u f m : Int) (l : List Rg) (a : Option Addr) (c : Nat) (w : World) (hn0 : 0 ≤ n) (hn1 : n ≤ 100000) (hu0 : 0 ≤ u) (hu1 : u ≤ 100000) (hm0 : 0 ≤ m) (hm1 : m ≤ 100000) (hs : l.length ≤ 1048576) (B : Nat) (hr : OwnR B w (.slice a l.length c) l) (ho : lineOk ⟨5, n, u, f, m, l, false⟩ = true) :
  Calls Tryd.prog 5 #[.agg #[.int .i64 5, .int .i64 n, .int .i64 u, .int .i64 f, .int .i64 m, .slice a l.length c, .bool false]] w fun e w' => e = .returned (.tuple #[.string (valB n m), .bool true]) ∧ Below w.heap.size w w' := by
 have RS := hide hr; clear hr; have zn := dB_size hn0 hn1; have zu := dB_size hu0 hu1; have zf := fB_size f; have zm := dB_size hm0 hm1; have zl := sB_size hs; have BB := hide (Below.refl w.heap.size w)
 obtain ⟨ws1, hA⟩ : ∃ X, X = w.alloc (.cells ([.int .i64 5, .int .i64 n, .int .i64 u, .int .i64 f, .int .i64 m, .slice a l.length c, .bool false] : List Value).toArray 30) := ⟨_, rfl⟩
 have Ax : HasObj ws1 w.heap.size 30 [.int .i64 5, .int .i64 n, .int .i64 u, .int .i64 f, .int .i64 m, .slice a l.length c, .bool false] := by rw [hA]; exact HasObj.new _ _ _
 have hbn : Below w.heap.size w ws1 := by rw [hA]; exact (Below.refl _ _).alloc (Nat.le_refl _) _
 have loA : w.heap.size ≤ w.heap.size := (uh BB).size
 have EA := hA.symm; clear hA; have sz1 := hide (hbn.size); replace BB := hide (below_y (uh BB) hbn); clear hbn; have A := hide Ax; clear Ax; have Ac0_1 := (uh A).cell 0 rfl; have Ac1_1 := (uh A).cell 1 rfl; have Ac2_1 := (uh A).cell 2 rfl; have Ac3_1 := (uh A).cell 3 rfl; have Ac4_1 := (uh A).cell 4 rfl; have Ac5_1 := (uh A).cell 5 rfl; have Ac6_1 := (uh A).cell 6 rfl
 go_enter Tryd.func5, Tryd.ntmps5
 go_wp2_with fail; clear Ac0_1 Ac1_1 Ac2_1 Ac3_1 Ac4_1 Ac5_1 Ac6_1 EA
 refine (spec_LineOk_any ⟨5, n, u, f, m, l, false⟩ _ _ _ hs ((uh RS).up (uh BB))).mono ?_
 rintro e ws2 ⟨rfl, hb⟩
 replace A := hide ((uh A).ups hb); have sz2 := hide (hb.size); replace BB := hide (below_y (uh BB) hb); clear hb
 rw [ho]
 have Ac0_2 := (uh A).cell 0 rfl; have Ac1_2 := (uh A).cell 1 rfl; have Ac2_2 := (uh A).cell 2 rfl; have Ac3_2 := (uh A).cell 3 rfl; have Ac4_2 := (uh A).cell 4 rfl; have Ac5_2 := (uh A).cell 5 rfl; have Ac6_2 := (uh A).cell 6 rfl; go_wp2_with fail; clear Ac0_2 Ac1_2 Ac2_2 Ac3_2 Ac4_2 Ac5_2 Ac6_2
 refine (decS n _ hn0 hn1).mono ?_
 rintro e ws3 ⟨rfl, hb⟩
 replace A := hide ((uh A).ups hb); have sz3 := hide (hb.size); replace BB := hide (below_y (uh BB) hb); clear hb; have Ac0_3 := (uh A).cell 0 rfl; have Ac1_3 := (uh A).cell 1 rfl; have Ac2_3 := (uh A).cell 2 rfl; have Ac3_3 := (uh A).cell 3 rfl; have Ac4_3 := (uh A).cell 4 rfl; have Ac5_3 := (uh A).cell 5 rfl; have Ac6_3 := (uh A).cell 6 rfl; go_wp2_with fail; clear Ac0_3 Ac1_3 Ac2_3 Ac3_3 Ac4_3 Ac5_3 Ac6_3
 refine (decS m _ hm0 hm1).mono ?_
 rintro e ws4 ⟨rfl, hb⟩
 replace A := hide ((uh A).ups hb); have sz4 := hide (hb.size); replace BB := hide (below_y (uh BB) hb); clear hb; have Ac0_4 := (uh A).cell 0 rfl; have Ac1_4 := (uh A).cell 1 rfl; have Ac2_4 := (uh A).cell 2 rfl; have Ac3_4 := (uh A).cell 3 rfl; have Ac4_4 := (uh A).cell 4 rfl; have Ac5_4 := (uh A).cell 5 rfl; have Ac6_4 := (uh A).cell 6 rfl
 go_wp2
 go_returns
 exact ⟨rfl, uh BB⟩
set_option maxHeartbeats 4000000 in
set_option maxRecDepth 100000 in
theorem spec_text_6n (n u f m : Int) (b : Bool) (a : Option Addr) (c : Nat) (w : World) (hn0 : 0 ≤ n) (hn1 : n ≤ 100000) (hu0 : 0 ≤ u) (hu1 : u ≤ 100000) (hm0 : 0 ≤ m) (hm1 : m ≤ 100000) (B : Nat) (hr : OwnR B w (.slice a 0 c) []) (ho : lineOk ⟨6, n, u, f, m, [], b⟩ = true) :
  Calls Tryd.prog 5 #[.agg #[.int .i64 6, .int .i64 n, .int .i64 u, .int .i64 f, .int .i64 m, .slice a 0 c, .bool b]] w fun e w' => e = .returned (.tuple #[.string (⟨#[42, 32, 115, 101, 97, 114, 99, 104]⟩), .bool true]) ∧ Below w.heap.size w w' := by
 have RS := hide hr; clear hr; have zn := dB_size hn0 hn1; have zu := dB_size hu0 hu1; have zf := fB_size f; have zm := dB_size hm0 hm1; have BB := hide (Below.refl w.heap.size w)
 obtain ⟨ws1, hA⟩ : ∃ X, X = w.alloc (.cells ([.int .i64 6, .int .i64 n, .int .i64 u, .int .i64 f, .int .i64 m, .slice a 0 c, .bool b] : List Value).toArray 30) := ⟨_, rfl⟩
 have Ax : HasObj ws1 w.heap.size 30 [.int .i64 6, .int .i64 n, .int .i64 u, .int .i64 f, .int .i64 m, .slice a 0 c, .bool b] := by rw [hA]; exact HasObj.new _ _ _
 have hbn : Below w.heap.size w ws1 := by rw [hA]; exact (Below.refl _ _).alloc (Nat.le_refl _) _
 have loA : w.heap.size ≤ w.heap.size := (uh BB).size
 have EA := hA.symm; clear hA; have sz1 := hide (hbn.size); replace BB := hide (below_y (uh BB) hbn); clear hbn; have A := hide Ax; clear Ax; have Ac0_1 := (uh A).cell 0 rfl; have Ac1_1 := (uh A).cell 1 rfl; have Ac2_1 := (uh A).cell 2 rfl; have Ac3_1 := (uh A).cell 3 rfl; have Ac4_1 := (uh A).cell 4 rfl; have Ac5_1 := (uh A).cell 5 rfl; have Ac6_1 := (uh A).cell 6 rfl
 go_enter Tryd.func5, Tryd.ntmps5
 go_wp2_with fail; clear Ac0_1 Ac1_1 Ac2_1 Ac3_1 Ac4_1 Ac5_1 Ac6_1 EA
 refine (spec_LineOk_any ⟨6, n, u, f, m, [], b⟩ _ _ _ (Nat.zero_le _) ((uh RS).up (uh BB))).mono ?_
 rintro e ws2 ⟨rfl, hb⟩
 replace A := hide ((uh A).ups hb); have sz2 := hide (hb.size); replace BB := hide (below_y (uh BB) hb); clear hb
 rw [ho]
 have Ac0_2 := (uh A).cell 0 rfl; have Ac1_2 := (uh A).cell 1 rfl; have Ac2_2 := (uh A).cell 2 rfl; have Ac3_2 := (uh A).cell 3 rfl; have Ac4_2 := (uh A).cell 4 rfl; have Ac5_2 := (uh A).cell 5 rfl; have Ac6_2 := (uh A).cell 6 rfl; go_wp2_with fail; clear Ac0_2 Ac1_2 Ac2_2 Ac3_2 Ac4_2 Ac5_2 Ac6_2
 refine (decS n _ hn0 hn1).mono ?_
 rintro e ws3 ⟨rfl, hb⟩
 replace A := hide ((uh A).ups hb); have sz3 := hide (hb.size); replace BB := hide (below_y (uh BB) hb); clear hb; have Ac0_3 := (uh A).cell 0 rfl; have Ac1_3 := (uh A).cell 1 rfl; have Ac2_3 := (uh A).cell 2 rfl; have Ac3_3 := (uh A).cell 3 rfl; have Ac4_3 := (uh A).cell 4 rfl; have Ac5_3 := (uh A).cell 5 rfl; have Ac6_3 := (uh A).cell 6 rfl
 go_wp2
 go_returns
 exact ⟨rfl, uh BB⟩
set_option maxHeartbeats 4000000 in
set_option maxRecDepth 100000 in
theorem spec_text_6s (n u f m : Int) (l : List Rg) (b : Bool) (a : Option Addr) (c : Nat) (w : World) (hn0 : 0 ≤ n) (hn1 : n ≤ 100000) (hu0 : 0 ≤ u) (hu1 : u ≤ 100000) (hm0 : 0 ≤ m) (hm1 : m ≤ 100000) (hs : l.length ≤ 1048576) (B : Nat) (hr : OwnR B w (.slice a l.length c) l) (ho : lineOk ⟨6, n, u, f, m, l, b⟩ = true) (h0 : ¬ l.length = 0) :
  Calls Tryd.prog 5 #[.agg #[.int .i64 6, .int .i64 n, .int .i64 u, .int .i64 f, .int .i64 m, .slice a l.length c, .bool b]] w fun e w' => e = .returned (.tuple #[.string (⟨#[42, 32, 115, 101, 97, 114, 99, 104, 32]⟩ ++ sB l), .bool true]) ∧ Below w.heap.size w w' := by
 have RS := hide hr; clear hr; have zn := dB_size hn0 hn1; have zu := dB_size hu0 hu1; have zf := fB_size f; have zm := dB_size hm0 hm1; have zl := sB_size hs; have BB := hide (Below.refl w.heap.size w)
 obtain ⟨ws1, hA⟩ : ∃ X, X = w.alloc (.cells ([.int .i64 6, .int .i64 n, .int .i64 u, .int .i64 f, .int .i64 m, .slice a l.length c, .bool b] : List Value).toArray 30) := ⟨_, rfl⟩
 have Ax : HasObj ws1 w.heap.size 30 [.int .i64 6, .int .i64 n, .int .i64 u, .int .i64 f, .int .i64 m, .slice a l.length c, .bool b] := by rw [hA]; exact HasObj.new _ _ _
 have hbn : Below w.heap.size w ws1 := by rw [hA]; exact (Below.refl _ _).alloc (Nat.le_refl _) _
 have loA : w.heap.size ≤ w.heap.size := (uh BB).size
 have EA := hA.symm; clear hA; have sz1 := hide (hbn.size); replace BB := hide (below_y (uh BB) hbn); clear hbn; have A := hide Ax; clear Ax; have Ac0_1 := (uh A).cell 0 rfl; have Ac1_1 := (uh A).cell 1 rfl; have Ac2_1 := (uh A).cell 2 rfl; have Ac3_1 := (uh A).cell 3 rfl; have Ac4_1 := (uh A).cell 4 rfl; have Ac5_1 := (uh A).cell 5 rfl; have Ac6_1 := (uh A).cell 6 rfl
 go_enter Tryd.func5, Tryd.ntmps5
 go_wp2_with fail; clear Ac0_1 Ac1_1 Ac2_1 Ac3_1 Ac4_1 Ac5_1 Ac6_1 EA
 refine (spec_LineOk_any ⟨6, n, u, f, m, l, b⟩ _ _ _ hs ((uh RS).up (uh BB))).mono ?_
 rintro e ws2 ⟨rfl, hb⟩
 replace A := hide ((uh A).ups hb); have sz2 := hide (hb.size); replace BB := hide (below_y (uh BB) hb); clear hb
 rw [ho]
 have Ac0_2 := (uh A).cell 0 rfl; have Ac1_2 := (uh A).cell 1 rfl; have Ac2_2 := (uh A).cell 2 rfl; have Ac3_2 := (uh A).cell 3 rfl; have Ac4_2 := (uh A).cell 4 rfl; have Ac5_2 := (uh A).cell 5 rfl; have Ac6_2 := (uh A).cell 6 rfl; go_wp2_with fail; clear Ac0_2 Ac1_2 Ac2_2 Ac3_2 Ac4_2 Ac5_2 Ac6_2
 refine (decS n _ hn0 hn1).mono ?_
 rintro e ws3 ⟨rfl, hb⟩
 replace A := hide ((uh A).ups hb); have sz3 := hide (hb.size); replace BB := hide (below_y (uh BB) hb); clear hb; have Ac0_3 := (uh A).cell 0 rfl; have Ac1_3 := (uh A).cell 1 rfl; have Ac2_3 := (uh A).cell 2 rfl; have Ac3_3 := (uh A).cell 3 rfl; have Ac4_3 := (uh A).cell 4 rfl; have Ac5_3 := (uh A).cell 5 rfl; have Ac6_3 := (uh A).cell 6 rfl
 have h1 : ¬ (l.length : Int) = 0 := by omega
 go_wp2_with fail; clear Ac0_3 Ac1_3 Ac2_3 Ac3_3 Ac4_3 Ac5_3 Ac6_3
 refine (setSt l _ _ _ hs ((uh RS).up (uh BB))).mono ?_
 rintro e ws4 ⟨rfl, hb⟩
 replace A := hide ((uh A).ups hb); have sz4 := hide (hb.size); replace BB := hide (below_y (uh BB) hb); clear hb
 go_wp2
 go_returns
 exact ⟨rfl, uh BB⟩
set_option maxHeartbeats 4000000 in
set_option maxRecDepth 100000 in
theorem spec_LineText_any (x : Ln) (v : Value) (B : Nat) (w : World) (hs : x.set.length ≤ 1048576) (hr : OwnR B w v x.set) :
  Calls Tryd.prog 5 #[lnV x v] w fun e w' => e = .returned (.tuple #[.string (ltV x).1, .bool (ltV x).2]) ∧ Below w.heap.size w w' := by
 obtain ⟨a, c, rfl⟩ := g_shape hr
 have RS := hide hr; clear hr
 cases ho : lineOk x with
 | true =>
  have V : Hid (ltV x = (ltB x, true)) := by show _ = _; unfold ltV; rw [ho]; rfl
  rw [uh V]
  clear V
  obtain ⟨⟨n0, n1⟩, ⟨u0, u1⟩, ⟨m0, m1⟩, hk⟩ := line_nums ho
  obtain ⟨k, n, u, f, m, l, b⟩ := x
  dsimp only at *
  have n1 : n ≤ 100000 := by omega
  have u1 : u ≤ 100000 := by omega
  have hr := uh RS
  rcases kinds9 hk with h | h | h | h | h | h | h | h | h <;> subst h
  ·exact spec_text_1 n u f m l b a c w n0 n1 u0 u1 m0 m1 hs B hr ho
  ·exact spec_text_2 n u f m l b a c w n0 n1 u0 u1 m0 m1 hs B hr ho
  ·exact spec_text_3 n u f m l b a c w n0 n1 u0 u1 m0 m1 hs B hr ho
  ·exact spec_text_4 n u f m l b a c w n0 n1 u0 u1 m0 m1 hs B hr ho
  ·cases b
   ·exact spec_text_5f n u f m l a c w n0 n1 u0 u1 m0 m1 hs B hr ho
   ·exact spec_text_5t n u f m l a c w n0 n1 u0 u1 m0 m1 hs B hr ho
  ·by_cases h0 : l.length = 0
   ·have e : ltB ⟨6, n, u, f, m, l, b⟩ = ⟨#[42, 32, 115, 101, 97, 114, 99, 104]⟩ := by simp [ltB, h0]
    rw [e]
    obtain rfl := List.length_eq_zero_iff.1 h0
    exact spec_text_6n n u f m b a c w n0 n1 u0 u1 m0 m1 B hr ho
   ·have e : ltB ⟨6, n, u, f, m, l, b⟩ = ⟨#[42, 32, 115, 101, 97, 114, 99, 104, 32]⟩ ++ sB l := by simp [ltB, h0]
    rw [e]
    exact spec_text_6s n u f m l b a c w n0 n1 u0 u1 m0 m1 hs B hr ho h0
  ·exact spec_text_7 n u f m l b a c w n0 n1 u0 u1 m0 m1 hs B hr ho
  ·exact spec_text_8 n u f m l b a c w n0 n1 u0 u1 m0 m1 hs B hr ho
  ·exact spec_text_9 n u f m l b a c w n0 n1 u0 u1 m0 m1 hs B hr ho
 | false =>
  have V : Hid (ltV x = (⟨#[]⟩, false)) := by show _ = _; unfold ltV; rw [ho]; rfl
  have BB := hide (Below.refl w.heap.size w)
  obtain ⟨wo1, hA⟩ : ∃ X, X = w.alloc (.cells ([.int .i64 x.kind, .int .i64 x.num, .int .i64 x.uid, .int .i64 x.flags, .int .i64 x.mod, .slice a x.set.length c, .bool x.all] : List Value).toArray 30) := ⟨_, rfl⟩
  have Ax : HasObj wo1 w.heap.size 30 [.int .i64 x.kind, .int .i64 x.num, .int .i64 x.uid, .int .i64 x.flags, .int .i64 x.mod, .slice a x.set.length c, .bool x.all] := by rw [hA]; exact HasObj.new _ _ _
  have hbn : Below w.heap.size w wo1 := by rw [hA]; exact (Below.refl _ _).alloc (Nat.le_refl _) _
  have loA : w.heap.size ≤ w.heap.size := (uh BB).size
  have EA := hA.symm; clear hA; have sz1 := hide (hbn.size); replace BB := hide (below_y (uh BB) hbn); clear hbn; have A := hide Ax; clear Ax; have Ac0_1 := (uh A).cell 0 rfl; have Ac1_1 := (uh A).cell 1 rfl; have Ac2_1 := (uh A).cell 2 rfl; have Ac3_1 := (uh A).cell 3 rfl; have Ac4_1 := (uh A).cell 4 rfl; have Ac5_1 := (uh A).cell 5 rfl; have Ac6_1 := (uh A).cell 6 rfl
  go_enter Tryd.func5, Tryd.ntmps5
  go_wp2_with fail; clear Ac0_1 Ac1_1 Ac2_1 Ac3_1 Ac4_1 Ac5_1 Ac6_1 EA
  refine (spec_LineOk_any x _ _ _ hs ((uh RS).up (uh BB))).mono ?_
  rintro e wo2 ⟨rfl, hb⟩
  replace A := hide ((uh A).ups hb); have sz2 := hide (hb.size); replace BB := hide (below_y (uh BB) hb); clear hb
  rw [ho]
  go_wp2
  go_returns
  exact ⟨by rw [uh V] <;> rfl, uh BB⟩
end Go.Proofs.YtgdihceikhkddaaDoor
