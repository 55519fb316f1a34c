/- The program's TakeLine. Made by gen_take.py. -/
import Derived.Test.YtgdihceikhkddaaTkPlain
import Derived.Test.YtgdihceikhkddaaBoxNameI
namespace Go.Proofs.Ytgdihceikhkddaa
open Go.RowKit Go.ChangeShapes Go.WideShapes Go.ChangeAt Go.Deep
open Plain
set_option linter.unusedVariables false
set_option linter.unusedSimpArgs false

set_option maxHeartbeats 4000000 in
set_option maxRecDepth 100000 in
theorem asMany_any (l : List Sn) (v : Value) (n : Nat) (w : World) (hn : n ≤ 30) (hl : l.length ≤ 1048576) (h : ReadSn w v l) :
  Calls Try.prog 17 #[v, .int .i64 n] w fun e w' => ∃ u, e = .returned u ∧ OwnSn w.heap.size w' u (l.take n ++ List.replicate (n - l.length) sn0) ∧ Below w.heap.size w w' := by
 obtain ⟨i0, hi, hz0, hz1, hz2⟩ := info_parts Try.infoSeen
 have hsz2 : (Try.prog.info? 34).map (·.size) = some 3 := by rw [hi]; exact congrArg some hz1
 have H := hide h
 obtain ⟨a, c, rfl, hcap, hc⟩ := h
 have HC : Hid (0 < l.length → ∃ g o, a = some ⟨g, o, none⟩) := fun h0 => by
  obtain ⟨g, o, hg, _⟩ := hc 0 (l[0]'h0) (List.getElem?_eq_getElem h0)
  exact ⟨g, o, hg⟩
 clear hc
 have hn0 : (0 : Int) ≤ (n : Int) := by omega
 go_enter Try.func17, Try.ntmps17
 go_wp2_with (refine wpList_make_full _ rfl _ _ 42 rfl w.heap.size 34 i0 _ 3 Try.underlying42 hi hz0 hz1 .i64 .i64 _ _ n rfl rfl rfl rfl (by rw [hz2]; omega) (by unfold maxLen; omega) (Nat.le_refl _) ?_; intro wm hown hgm)
 rw [made_seens] at hown
 have HH := hide (own_heap hown).1; have hb0 := g_below hgm; have hsz := (hown.lt _ rfl).2; clear hown
 obtain ⟨w2, RUN, hh2, hg2⟩ : ∃ w2, (Builtin.copy_ #[42, 42] 3 #[.slice (some ⟨w.heap.size, 0, none⟩) n n, .slice a l.length c]).run Try.prog wm = .ok (goInt (Nat.min l.length n : Nat)) w2 ∧ Hid (w2.heap[w.heap.size]? = some (.cells (splice (rowC snC (List.replicate n sn0)) 0 (rowC snC (l.take n))).toArray 34 (0, 0))) ∧ wm.grownBy w2 (some w.heap.size) := by
  by_cases h0 : Nat.min l.length n = 0
  ·refine ⟨wm, ?_, ?_, g_self _ _⟩
   ·rw [h0]; exact run_copy_noneK (P := Try.prog) wm 42 42 3 34 3 _ a n n l.length c Try.underlying42 hsz2 h0
   ·have e : l.take n = [] := List.eq_nil_of_length_eq_zero (by rw [List.length_take, Nat.min_comm]; exact h0)
    show _ = _
    rw [e]
    simpa [splice, rowC] using uh HH
  ·have h1 : 0 < l.length := Nat.lt_of_lt_of_le (Nat.pos_of_ne_zero h0) (Nat.min_le_left _ _)
   obtain ⟨g, o, rfl⟩ := uh HC h1
   exact run_copyK (P := Try.prog) wm 42 42 3 34 3 (Nat.min l.length n) w.heap.size 0 n n ⟨g, o, none⟩ l.length c (rowC snC (List.replicate n sn0)) 34 (rowC snC (l.take n)) Try.underlying42 hsz2 (uh HH) rfl (by rw [rowC_len snC_len]; simp [Nat.min_comm]) (fun j v hj => readSn_cells ((uh H).up hb0) j v (rowC_take_get l n j v hj)) (by rw [rowC_len snC_len, rowC_len snC_len]; simp; omega) (snC_one _)
 have OWN : Hid (OwnSn w.heap.size w2 (.slice (some ⟨w.heap.size, 0, none⟩) n n) (l.take n ++ List.replicate (n - l.length) sn0)) := by
  have e := splice_laidN [] (l.take n) n (by simp; omega)
  have hl2 : (l.take n ++ List.replicate (n - l.length) sn0).length = n := by simp; omega
  have e2 : n - (l.take n).length = n - l.length := by simp; omega
  simp only [List.nil_append, List.length_nil, Nat.zero_mul] at e
  rw [e2] at e
  have h2 := uh hh2
  rw [e] at h2
  have := heap_own h2 (Nat.le_refl _) (n := n) (z := 3) (by rw [rowC_len snC_len, hl2]) (by unfold maxLen; omega)
  show World.ownsRow _ _ _ _ _ _ _
  rw [hl2]
  exact this
 have hb2 := hb0.trans (g_belowB hg2 (Nat.le_refl _) (Nat.le_of_lt hsz))
 obtain ⟨mn, hmn⟩ : ∃ x, x = Nat.min l.length n := ⟨_, rfl⟩
 rw [← hmn] at RUN
 clear hmn hh2 hgm hb0
 go_wp2
 go_ret
 exact ⟨_, rfl, uh OWN, hb2⟩
set_option maxHeartbeats 4000000 in
set_option maxRecDepth 100000 in
theorem atPlace_any (l : List Sn) (v : Value) (n : Int) (w0 w : World) (hl : l.length ≤ 1048576) (h : ReadSn w0 v l) :
  Calls Try.prog 15 #[v, .int .i64 n] w fun e w' => (∃ a1 n1 c1 a2 n2 c2, e = .returned (.tuple #[.slice a1 n1 c1, .slice a2 n2 c2, .bool (inI n 1 l.length)]) ∧ (inI n 1 l.length = true → ReadSn w0 (.slice a1 n1 c1) (l.take (n.toNat - 1)) ∧ ReadSn w0 (.slice a2 n2 c2) (l.drop n.toNat))) ∧ Below w.heap.size w w' := by
 have H := hide h
 obtain ⟨a, c, rfl, hcap, hc⟩ := h
 clear hc; have Q := hide (impl_within_any n 1 (l.length : Int) w)
 cases hb : inI n 1 (l.length : Int) with
 | false =>
  rw [hb] at Q
  go_enter Try.func15, Try.ntmps15
  go_wp2_with fail
  refine (uh Q).mono ?_
  rintro e w1 ⟨rfl, rfl⟩
  go_wp2
  go_returns
  exact ⟨⟨none, 0, 0, none, 0, 0, rfl, fun h => by cases h⟩, Below.refl _ _⟩
 | true =>
  rw [hb] at Q
  obtain ⟨k0, rfl, hk1, hk2⟩ := inI_nat hb (by decide)
  clear hb
  obtain ⟨k, rfl⟩ : ∃ k, k0 = k + 1 := ⟨k0 - 1, by omega⟩
  have e1 : (((k + 1 : Nat) : Int)) = (k : Int) + 1 := by omega
  have C := hide (fun W => seen_cut_any l (.slice a l.length c) k (k + 1) w0 W hl (uh H) (by omega) (by omega))
  rw [e1] at Q C ⊢
  have b1 : IntKind.i64.wrap ((k : Int) + 1 - 1) = (k : Int) := by rw [IntKind.wrap_i64]; omega
  have b2 : IntKind.i64.wrap (k : Int) = (k : Int) := by rw [IntKind.wrap_i64]; omega
  go_enter Try.func15, Try.ntmps15
  go_wp2_with fail
  refine (uh Q).mono ?_
  rintro e w1 ⟨rfl, rfl⟩
  go_wp2_with fail
  refine (uh C _).mono ?_
  rintro e w2 ⟨⟨v1, v2, v3, rfl, r1, r2, r3⟩, q, rfl⟩
  have R1 := hide r1; have R3 := hide r3
  obtain ⟨a1, c1, rfl, _, _⟩ := r1
  obtain ⟨a2, c2, rfl, _, _⟩ := r2
  obtain ⟨a3, c3, rfl, _, _⟩ := r3
  generalize (l.take k).length = n1 at *
  generalize (l.drop (k + 1)).length = n3 at *
  go_wp2
  go_returns
  have t1 : ((k : Int) + 1).toNat = k + 1 := by omega
  refine ⟨⟨_, _, _, _, _, _, rfl, fun _ => ?_⟩, ?_⟩
  ·rw [t1]; exact ⟨uh R1, uh R3⟩
  ·exact below_drewN (Below.refl _ _) _
set_option maxHeartbeats 4000000 in
set_option maxRecDepth 100000 in
theorem impl_TakeLine_one (l : List Sn) (v : Value) (n u f m : Int) (b : Bool) (sa : Option Addr) (ns cs : Nat) (w : World) (hl : l.length ≤ 1048576) (h : ReadSn w v l) :
  Calls Try.prog 7 #[v, .agg #[.int .i64 1, .int .i64 n, .int .i64 u, .int .i64 f, .int .i64 m, .slice sa ns cs, .bool b]] w fun e w' => ∃ x, e = .returned x ∧ OwnSn w.heap.size w' x (takeL l 1 n u f m) ∧ Below w.heap.size w w' := by
 have H := hide h
 obtain ⟨a, c, rfl, hcap, hc⟩ := h
 clear hc; have BB := hide (Below.refl w.heap.size w)
 obtain ⟨wk1, hA⟩ : ∃ X, X = w.alloc (.cells ([.int .i64 1, .int .i64 n, .int .i64 u, .int .i64 f, .int .i64 m, .slice sa ns cs, .bool b] : List Value).toArray 27) := ⟨_, rfl⟩
 have Ax : HasObj wk1 w.heap.size 27 [.int .i64 1, .int .i64 n, .int .i64 u, .int .i64 f, .int .i64 m, .slice sa ns cs, .bool b] := by rw [hA]; exact HasObj.new _ _ _
 have hbn : Below w.heap.size w wk1 := by rw [hA]; exact (Below.refl _ _).alloc (Nat.le_refl _) _
 have loA : w.heap.size ≤ w.heap.size := (uh BB).size
 have EA := hA.symm; clear hA; have sz1 := hide (hbn.size); replace BB := hide (below_y (uh BB) hbn); clear hbn; have A := hide Ax; clear Ax; have Ac0_1 := (uh A).cell 0 rfl; have Ac1_1 := (uh A).cell 1 rfl; have Ac2_1 := (uh A).cell 2 rfl; have Ac3_1 := (uh A).cell 3 rfl; have Ac4_1 := (uh A).cell 4 rfl; have Ac5_1 := (uh A).cell 5 rfl; have Ac6_1 := (uh A).cell 6 rfl; have BA := hide (uh BB)
 go_enter Try.func7, Try.ntmps7
 go_wp2_with fail; clear Ac0_1 Ac1_1 Ac2_1 Ac3_1 Ac4_1 Ac5_1 Ac6_1 EA
 refine (atPlace_any l (.slice a l.length c) n w _ hl (uh H)).mono ?_
 rintro e wk2 ⟨⟨a1, n1, c1, a2, n2, c2, rfl, hr⟩, hb⟩
 replace A := hide ((uh A).ups hb); have sz2 := hide (hb.size); replace BB := hide (below_y (uh BB) hb); clear hb; have HR := hide hr; clear hr; have LOW := (uh BB).size
 generalize inI n 1 (l.length : Int) = bb at *
 cases hb : inI n 0 30 with
 | false =>
  have TL : Hid (takeL l 1 n u f m = l) := by show _ = _; unfold takeL; rw [if_pos rfl, hb]; rfl
  have Ac0_2 := (uh A).cell 0 rfl; have Ac1_2 := (uh A).cell 1 rfl; have Ac2_2 := (uh A).cell 2 rfl; have Ac3_2 := (uh A).cell 3 rfl; have Ac4_2 := (uh A).cell 4 rfl; have Ac5_2 := (uh A).cell 5 rfl; have Ac6_2 := (uh A).cell 6 rfl; go_wp2_with fail
  rw [show (30 : Int) = 30 from rfl]
  refine (impl_within_any n 0 30 _).mono ?_
  rintro e wz ⟨rfl, hwz⟩
  subst wz
  rw [hb]
  clear Ac0_2 Ac1_2 Ac2_2 Ac3_2 Ac4_2 Ac5_2 Ac6_2; have Ac0_3 := (uh A).cell 0 rfl; have Ac1_3 := (uh A).cell 1 rfl; have Ac2_3 := (uh A).cell 2 rfl; have Ac3_3 := (uh A).cell 3 rfl; have Ac4_3 := (uh A).cell 4 rfl; have Ac5_3 := (uh A).cell 5 rfl; have Ac6_3 := (uh A).cell 6 rfl; go_wp2_with fail; clear Ac0_3 Ac1_3 Ac2_3 Ac3_3 Ac4_3 Ac5_3 Ac6_3
  refine (seen_moved_one (.slice a l.length c) l wk2 (by omega) ((uh H).up (uh BB))).mono ?_
  rintro e wk3 ⟨x, rfl, ho, hb⟩
  replace A := hide ((uh A).ups hb); have sz3 := hide (hb.size); replace BB := hide (below_y (uh BB) hb); clear hb
  go_wp2
  go_ret
  exact ⟨_, rfl, by rw [uh TL]; exact ho.based LOW, uh BB⟩
 | true =>
  obtain ⟨j, rfl, hj1, hj2⟩ := inI_nat hb (by decide)
  have TL : Hid (takeL l 1 (j : Int) u f m = l.take j ++ List.replicate (j - l.length) sn0) := by show _ = _; unfold takeL; rw [if_pos rfl, hb]; rfl
  have Ac0_2 := (uh A).cell 0 rfl; have Ac1_2 := (uh A).cell 1 rfl; have Ac2_2 := (uh A).cell 2 rfl; have Ac3_2 := (uh A).cell 3 rfl; have Ac4_2 := (uh A).cell 4 rfl; have Ac5_2 := (uh A).cell 5 rfl; have Ac6_2 := (uh A).cell 6 rfl; go_wp2_with fail
  refine (impl_within_any (j : Int) 0 30 _).mono ?_
  rintro e wz ⟨rfl, hwz⟩
  subst wz
  rw [hb]
  go_wp2_with fail; clear Ac0_2 Ac1_2 Ac2_2 Ac3_2 Ac4_2 Ac5_2 Ac6_2
  refine (asMany_any l (.slice a l.length c) j wk2 (by omega) hl ((uh H).up (uh BB))).mono ?_
  rintro e wk3 ⟨x, rfl, ho, hb⟩
  replace A := hide ((uh A).ups hb); have sz3 := hide (hb.size); replace BB := hide (below_y (uh BB) hb); clear hb
  go_wp2
  go_ret
  exact ⟨_, rfl, by rw [uh TL]; exact ho.based LOW, uh BB⟩
set_option maxHeartbeats 4000000 in
set_option maxRecDepth 100000 in
theorem impl_TakeLine_two (l : List Sn) (v : Value) (n u f m : Int) (b : Bool) (sa : Option Addr) (ns cs : Nat) (w : World) (hl : l.length ≤ 1048576) (h : ReadSn w v l) :
  Calls Try.prog 7 #[v, .agg #[.int .i64 2, .int .i64 n, .int .i64 u, .int .i64 f, .int .i64 m, .slice sa ns cs, .bool b]] w fun e w' => ∃ x, e = .returned x ∧ OwnSn w.heap.size w' x (takeL l 2 n u f m) ∧ Below w.heap.size w w' := by
 have H := hide h
 obtain ⟨a, c, rfl, hcap, hc⟩ := h
 clear hc; have BB := hide (Below.refl w.heap.size w)
 obtain ⟨wk1, hA⟩ : ∃ X, X = w.alloc (.cells ([.int .i64 2, .int .i64 n, .int .i64 u, .int .i64 f, .int .i64 m, .slice sa ns cs, .bool b] : List Value).toArray 27) := ⟨_, rfl⟩
 have Ax : HasObj wk1 w.heap.size 27 [.int .i64 2, .int .i64 n, .int .i64 u, .int .i64 f, .int .i64 m, .slice sa ns cs, .bool b] := by rw [hA]; exact HasObj.new _ _ _
 have hbn : Below w.heap.size w wk1 := by rw [hA]; exact (Below.refl _ _).alloc (Nat.le_refl _) _
 have loA : w.heap.size ≤ w.heap.size := (uh BB).size
 have EA := hA.symm; clear hA; have sz1 := hide (hbn.size); replace BB := hide (below_y (uh BB) hbn); clear hbn; have A := hide Ax; clear Ax; have Ac0_1 := (uh A).cell 0 rfl; have Ac1_1 := (uh A).cell 1 rfl; have Ac2_1 := (uh A).cell 2 rfl; have Ac3_1 := (uh A).cell 3 rfl; have Ac4_1 := (uh A).cell 4 rfl; have Ac5_1 := (uh A).cell 5 rfl; have Ac6_1 := (uh A).cell 6 rfl; have BA := hide (uh BB)
 go_enter Try.func7, Try.ntmps7
 go_wp2_with fail; clear Ac0_1 Ac1_1 Ac2_1 Ac3_1 Ac4_1 Ac5_1 Ac6_1 EA
 refine (atPlace_any l (.slice a l.length c) n w _ hl (uh H)).mono ?_
 rintro e wk2 ⟨⟨a1, n1, c1, a2, n2, c2, rfl, hr⟩, hb⟩
 replace A := hide ((uh A).ups hb); have sz2 := hide (hb.size); replace BB := hide (below_y (uh BB) hb); clear hb; have HR := hide hr; clear hr; have LOW := (uh BB).size
 cases hb : inI n 1 (l.length : Int) with
 | false =>
  clear HR
  have TL : Hid (takeL l 2 n u f m = l) := by show _ = _; unfold takeL; simp [hb]
  have Ac0_2 := (uh A).cell 0 rfl; have Ac1_2 := (uh A).cell 1 rfl; have Ac2_2 := (uh A).cell 2 rfl; have Ac3_2 := (uh A).cell 3 rfl; have Ac4_2 := (uh A).cell 4 rfl; have Ac5_2 := (uh A).cell 5 rfl; have Ac6_2 := (uh A).cell 6 rfl; have Ac0_3 := (uh A).cell 0 rfl; have Ac1_3 := (uh A).cell 1 rfl; have Ac2_3 := (uh A).cell 2 rfl; have Ac3_3 := (uh A).cell 3 rfl; have Ac4_3 := (uh A).cell 4 rfl; have Ac5_3 := (uh A).cell 5 rfl; have Ac6_3 := (uh A).cell 6 rfl; go_wp2_with fail; clear Ac0_2 Ac1_2 Ac2_2 Ac3_2 Ac4_2 Ac5_2 Ac6_2 Ac0_3 Ac1_3 Ac2_3 Ac3_3 Ac4_3 Ac5_3 Ac6_3
  refine (seen_moved_one (.slice a l.length c) l wk2 (by omega) ((uh H).up (uh BB))).mono ?_
  rintro e wk3 ⟨x, rfl, ho, hb⟩
  replace A := hide ((uh A).ups hb); have sz3 := hide (hb.size); replace BB := hide (below_y (uh BB) hb); clear hb
  go_wp2
  go_ret
  exact ⟨_, rfl, by rw [uh TL]; exact ho.based LOW, uh BB⟩
 | true =>
  obtain ⟨r1, r2⟩ := uh HR hb
  have R1 := hide r1; have R2 := hide r2; clear r1 r2 HR
  have TL : Hid (takeL l 2 n u f m = l.take (n.toNat - 1) ++ l.drop n.toNat) := by show _ = _; unfold takeL; simp [hb]
  have Ac0_2 := (uh A).cell 0 rfl; have Ac1_2 := (uh A).cell 1 rfl; have Ac2_2 := (uh A).cell 2 rfl; have Ac3_2 := (uh A).cell 3 rfl; have Ac4_2 := (uh A).cell 4 rfl; have Ac5_2 := (uh A).cell 5 rfl; have Ac6_2 := (uh A).cell 6 rfl; go_wp2_with fail; clear Ac0_2 Ac1_2 Ac2_2 Ac3_2 Ac4_2 Ac5_2 Ac6_2
  refine (seen_moved_two (.slice a1 n1 c1) (.slice a2 n2 c2) (l.take (n.toNat - 1)) (l.drop n.toNat) wk2 (by simp; omega) ((uh R1).up (uh BB)) ((uh R2).up (uh BB))).mono ?_
  rintro e wk3 ⟨x, rfl, ho, hb3, _⟩
  replace A := hide ((uh A).ups hb3); have sz3 := hide (hb3.size); replace BB := hide (below_y (uh BB) hb3); clear hb3
  go_wp2
  go_ret
  exact ⟨_, rfl, by rw [uh TL]; exact ho.based LOW, uh BB⟩
set_option maxHeartbeats 4000000 in
set_option maxRecDepth 100000 in
theorem impl_TakeLine_three (l : List Sn) (v : Value) (n u f m : Int) (b : Bool) (sa : Option Addr) (ns cs : Nat) (w : World) (hl : l.length ≤ 1048576) (h : ReadSn w v l) :
  Calls Try.prog 7 #[v, .agg #[.int .i64 3, .int .i64 n, .int .i64 u, .int .i64 f, .int .i64 m, .slice sa ns cs, .bool b]] w fun e w' => ∃ x, e = .returned x ∧ OwnSn w.heap.size w' x (takeL l 3 n u f m) ∧ Below w.heap.size w w' := by
 have H := hide h
 obtain ⟨a, c, rfl, hcap, hc⟩ := h
 clear hc; have BB := hide (Below.refl w.heap.size w)
 obtain ⟨wk1, hA⟩ : ∃ X, X = w.alloc (.cells ([.int .i64 3, .int .i64 n, .int .i64 u, .int .i64 f, .int .i64 m, .slice sa ns cs, .bool b] : List Value).toArray 27) := ⟨_, rfl⟩
 have Ax : HasObj wk1 w.heap.size 27 [.int .i64 3, .int .i64 n, .int .i64 u, .int .i64 f, .int .i64 m, .slice sa ns cs, .bool b] := by rw [hA]; exact HasObj.new _ _ _
 have hbn : Below w.heap.size w wk1 := by rw [hA]; exact (Below.refl _ _).alloc (Nat.le_refl _) _
 have loA : w.heap.size ≤ w.heap.size := (uh BB).size
 have EA := hA.symm; clear hA; have sz1 := hide (hbn.size); replace BB := hide (below_y (uh BB) hbn); clear hbn; have A := hide Ax; clear Ax; have Ac0_1 := (uh A).cell 0 rfl; have Ac1_1 := (uh A).cell 1 rfl; have Ac2_1 := (uh A).cell 2 rfl; have Ac3_1 := (uh A).cell 3 rfl; have Ac4_1 := (uh A).cell 4 rfl; have Ac5_1 := (uh A).cell 5 rfl; have Ac6_1 := (uh A).cell 6 rfl; have BA := hide (uh BB)
 go_enter Try.func7, Try.ntmps7
 go_wp2_with fail; clear Ac0_1 Ac1_1 Ac2_1 Ac3_1 Ac4_1 Ac5_1 Ac6_1 EA
 refine (atPlace_any l (.slice a l.length c) n w _ hl (uh H)).mono ?_
 rintro e wk2 ⟨⟨a1, n1, c1, a2, n2, c2, rfl, hr⟩, hb⟩
 replace A := hide ((uh A).ups hb); have sz2 := hide (hb.size); replace BB := hide (below_y (uh BB) hb); clear hb; have HR := hide hr; clear hr; have LOW := (uh BB).size
 cases hb : inI n 1 (l.length : Int) with
 | false =>
  clear HR
  have TL : Hid (takeL l 3 n u f m = l) := by show _ = _; unfold takeL; simp [hb]
  have Ac0_2 := (uh A).cell 0 rfl; have Ac1_2 := (uh A).cell 1 rfl; have Ac2_2 := (uh A).cell 2 rfl; have Ac3_2 := (uh A).cell 3 rfl; have Ac4_2 := (uh A).cell 4 rfl; have Ac5_2 := (uh A).cell 5 rfl; have Ac6_2 := (uh A).cell 6 rfl; have Ac0_3 := (uh A).cell 0 rfl; have Ac1_3 := (uh A).cell 1 rfl; have Ac2_3 := (uh A).cell 2 rfl; have Ac3_3 := (uh A).cell 3 rfl; have Ac4_3 := (uh A).cell 4 rfl; have Ac5_3 := (uh A).cell 5 rfl; have Ac6_3 := (uh A).cell 6 rfl; go_wp2_with fail; clear Ac0_2 Ac1_2 Ac2_2 Ac3_2 Ac4_2 Ac5_2 Ac6_2 Ac0_3 Ac1_3 Ac2_3 Ac3_3 Ac4_3 Ac5_3 Ac6_3
  refine (seen_moved_one (.slice a l.length c) l wk2 (by omega) ((uh H).up (uh BB))).mono ?_
  rintro e wk3 ⟨x, rfl, ho, hb⟩
  replace A := hide ((uh A).ups hb); have sz3 := hide (hb.size); replace BB := hide (below_y (uh BB) hb); clear hb
  go_wp2
  go_ret
  exact ⟨_, rfl, by rw [uh TL]; exact ho.based LOW, uh BB⟩
 | true =>
  obtain ⟨r1, r2⟩ := uh HR hb
  have R1 := hide r1; have R2 := hide r2; clear r1 r2 HR
  have TL : Hid (takeL l 3 n u f m = l.take (n.toNat - 1) ++ ([⟨u, f, m⟩] ++ l.drop n.toNat)) := by show _ = _; unfold takeL; simp [hb]
  have Ac0_2 := (uh A).cell 0 rfl; have Ac1_2 := (uh A).cell 1 rfl; have Ac2_2 := (uh A).cell 2 rfl; have Ac3_2 := (uh A).cell 3 rfl; have Ac4_2 := (uh A).cell 4 rfl; have Ac5_2 := (uh A).cell 5 rfl; have Ac6_2 := (uh A).cell 6 rfl
  obtain ⟨wk3, hD⟩ : ∃ X, X = wk2.alloc (.cells ([.int .i64 u, .int .i64 f, .int .i64 m] : List Value).toArray 34) := ⟨_, rfl⟩
  have Dx : HasObj wk3 wk2.heap.size 34 [.int .i64 u, .int .i64 f, .int .i64 m] := by rw [hD]; exact HasObj.new _ _ _
  have hbn : Below wk2.heap.size wk2 wk3 := by rw [hD]; exact (Below.refl _ _).alloc (Nat.le_refl _) _
  have neAD : w.heap.size ≠ wk2.heap.size := Nat.ne_of_lt (uh A).lt
  have loD : w.heap.size ≤ wk2.heap.size := (uh BB).size
  have ED := hD.symm; clear hD; replace A := hide ((uh A).ups hbn); have sz3 := hide (hbn.size); replace BB := hide (below_y (uh BB) hbn); clear hbn; have D := hide Dx; clear Dx
  have R3 : Hid (ReadSn wk3 (.slice (some ⟨wk2.heap.size, 0, none⟩) 1 1) [⟨u, f, m⟩]) := ⟨_, _, rfl, Nat.le_refl _, fun k x hx => by
   match k with
   | 0 =>
    simp at hx
    subst hx
    exact ⟨_, 0, rfl, (uh D).lt, (uh D).cell 0 rfl, (uh D).cell 1 rfl, (uh D).cell 2 rfl⟩
   | k + 1 => simp at hx⟩
  go_wp2_with fail; clear Ac0_2 Ac1_2 Ac2_2 Ac3_2 Ac4_2 Ac5_2 Ac6_2 ED
  refine (seen_moved_three (.slice a1 n1 c1) (.slice (some ⟨wk2.heap.size, 0, none⟩) 1 1) (.slice a2 n2 c2) (l.take (n.toNat - 1)) [⟨u, f, m⟩] (l.drop n.toNat) wk3 (by simp; omega) ((uh R1).up (uh BB)) (uh R3) ((uh R2).up (uh BB))).mono ?_
  rintro e wk4 ⟨x, rfl, ho, hb3⟩
  replace A := hide ((uh A).ups hb3); replace D := hide ((uh D).ups hb3); have sz4 := hide (hb3.size); replace BB := hide (below_y (uh BB) hb3); clear hb3; have LOW := Nat.le_trans LOW (uh sz3)
  go_wp2
  go_ret
  exact ⟨_, rfl, by rw [uh TL]; exact ho.based LOW, uh BB⟩
set_option maxHeartbeats 4000000 in
set_option maxRecDepth 100000 in
theorem impl_TakeLine_nine (l : List Sn) (v : Value) (n u f m : Int) (b : Bool) (sa : Option Addr) (ns cs : Nat) (w : World) (hl : l.length ≤ 1048576) (h : ReadSn w v l) :
  Calls Try.prog 7 #[v, .agg #[.int .i64 9, .int .i64 n, .int .i64 u, .int .i64 f, .int .i64 m, .slice sa ns cs, .bool b]] w fun e w' => ∃ x, e = .returned x ∧ OwnSn w.heap.size w' x (takeL l 9 n u f m) ∧ Below w.heap.size w w' := by
 have H := hide h
 obtain ⟨a, c, rfl, hcap, hc⟩ := h
 clear hc; have BB := hide (Below.refl w.heap.size w)
 obtain ⟨wk1, hA⟩ : ∃ X, X = w.alloc (.cells ([.int .i64 9, .int .i64 n, .int .i64 u, .int .i64 f, .int .i64 m, .slice sa ns cs, .bool b] : List Value).toArray 27) := ⟨_, rfl⟩
 have Ax : HasObj wk1 w.heap.size 27 [.int .i64 9, .int .i64 n, .int .i64 u, .int .i64 f, .int .i64 m, .slice sa ns cs, .bool b] := by rw [hA]; exact HasObj.new _ _ _
 have hbn : Below w.heap.size w wk1 := by rw [hA]; exact (Below.refl _ _).alloc (Nat.le_refl _) _
 have loA : w.heap.size ≤ w.heap.size := (uh BB).size
 have EA := hA.symm; clear hA; have sz1 := hide (hbn.size); replace BB := hide (below_y (uh BB) hbn); clear hbn; have A := hide Ax; clear Ax; have Ac0_1 := (uh A).cell 0 rfl; have Ac1_1 := (uh A).cell 1 rfl; have Ac2_1 := (uh A).cell 2 rfl; have Ac3_1 := (uh A).cell 3 rfl; have Ac4_1 := (uh A).cell 4 rfl; have Ac5_1 := (uh A).cell 5 rfl; have Ac6_1 := (uh A).cell 6 rfl; have BA := hide (uh BB)
 go_enter Try.func7, Try.ntmps7
 go_wp2_with fail; clear Ac0_1 Ac1_1 Ac2_1 Ac3_1 Ac4_1 Ac5_1 Ac6_1 EA
 refine (atPlace_any l (.slice a l.length c) n w _ hl (uh H)).mono ?_
 rintro e wk2 ⟨⟨a1, n1, c1, a2, n2, c2, rfl, hr⟩, hb⟩
 replace A := hide ((uh A).ups hb); have sz2 := hide (hb.size); replace BB := hide (below_y (uh BB) hb); clear hb; have HR := hide hr; clear hr
 generalize inI n 1 (l.length : Int) = bb at *
 have Ac0_2 := (uh A).cell 0 rfl; have Ac1_2 := (uh A).cell 1 rfl; have Ac2_2 := (uh A).cell 2 rfl; have Ac3_2 := (uh A).cell 3 rfl; have Ac4_2 := (uh A).cell 4 rfl; have Ac5_2 := (uh A).cell 5 rfl; have Ac6_2 := (uh A).cell 6 rfl
 go_wp2
 all_goals go_ret
 all_goals exact ⟨_, rfl, World.ownsRow_nil _ _ _ _, uh BB⟩
set_option maxHeartbeats 4000000 in
set_option maxRecDepth 100000 in
theorem impl_TakeLine_else (l : List Sn) (v : Value) (k n u f m : Int) (b : Bool) (sa : Option Addr) (ns cs : Nat) (w : World) (hl : l.length ≤ 1048576) (h : ReadSn w v l) (h1 : k ≠ 1) (h2 : k ≠ 2) (h3 : k ≠ 3) (h9 : k ≠ 9) :
  Calls Try.prog 7 #[v, .agg #[.int .i64 k, .int .i64 n, .int .i64 u, .int .i64 f, .int .i64 m, .slice sa ns cs, .bool b]] w fun e w' => ∃ x, e = .returned x ∧ OwnSn w.heap.size w' x (takeL l k n u f m) ∧ Below w.heap.size w w' := by
 have H := hide h
 obtain ⟨a, c, rfl, hcap, hc⟩ := h
 clear hc
 have TL : Hid (takeL l k n u f m = l) := by show _ = _; unfold takeL; rw [if_neg h1, if_neg h2, if_neg h3, if_neg h9]
 have q1 : (k == 1) = false := by simpa using h1
 have q2 : (k == 2) = false := by simpa using h2
 have q3 : (k == 3) = false := by simpa using h3
 have q9 : (k == 9) = false := by simpa using h9
 clear h1 h2 h3 h9; have BB := hide (Below.refl w.heap.size w)
 obtain ⟨wk1, hA⟩ : ∃ X, X = w.alloc (.cells ([.int .i64 k, .int .i64 n, .int .i64 u, .int .i64 f, .int .i64 m, .slice sa ns cs, .bool b] : List Value).toArray 27) := ⟨_, rfl⟩
 have Ax : HasObj wk1 w.heap.size 27 [.int .i64 k, .int .i64 n, .int .i64 u, .int .i64 f, .int .i64 m, .slice sa ns cs, .bool b] := by rw [hA]; exact HasObj.new _ _ _
 have hbn : Below w.heap.size w wk1 := by rw [hA]; exact (Below.refl _ _).alloc (Nat.le_refl _) _
 have loA : w.heap.size ≤ w.heap.size := (uh BB).size
 have EA := hA.symm; clear hA; have sz1 := hide (hbn.size); replace BB := hide (below_y (uh BB) hbn); clear hbn; have A := hide Ax; clear Ax; have Ac0_1 := (uh A).cell 0 rfl; have Ac1_1 := (uh A).cell 1 rfl; have Ac2_1 := (uh A).cell 2 rfl; have Ac3_1 := (uh A).cell 3 rfl; have Ac4_1 := (uh A).cell 4 rfl; have Ac5_1 := (uh A).cell 5 rfl; have Ac6_1 := (uh A).cell 6 rfl; have BA := hide (uh BB)
 go_enter Try.func7, Try.ntmps7
 go_wp2_with fail; clear Ac0_1 Ac1_1 Ac2_1 Ac3_1 Ac4_1 Ac5_1 Ac6_1 EA
 refine (atPlace_any l (.slice a l.length c) n w _ hl (uh H)).mono ?_
 rintro e wk2 ⟨⟨a1, n1, c1, a2, n2, c2, rfl, hr⟩, hb⟩
 replace A := hide ((uh A).ups hb); have sz2 := hide (hb.size); replace BB := hide (below_y (uh BB) hb); clear hb; have HR := hide hr; clear hr; have LOW := (uh BB).size; have Ac0_2 := (uh A).cell 0 rfl; have Ac1_2 := (uh A).cell 1 rfl; have Ac2_2 := (uh A).cell 2 rfl; have Ac3_2 := (uh A).cell 3 rfl; have Ac4_2 := (uh A).cell 4 rfl; have Ac5_2 := (uh A).cell 5 rfl; have Ac6_2 := (uh A).cell 6 rfl; go_wp2_with fail; clear Ac0_2 Ac1_2 Ac2_2 Ac3_2 Ac4_2 Ac5_2 Ac6_2
 refine (seen_moved_one (.slice a l.length c) l wk2 (by omega) ((uh H).up (uh BB))).mono ?_
 rintro e wk3 ⟨x, rfl, ho, hb⟩
 replace A := hide ((uh A).ups hb); have sz3 := hide (hb.size); replace BB := hide (below_y (uh BB) hb); clear hb
 go_wp2
 go_ret
 exact ⟨_, rfl, by rw [uh TL]; exact ho.based LOW, uh BB⟩
theorem impl_TakeLine_any (l : List Sn) (v : Value) (x : Ln) (sa : Option Addr) (ns cs : Nat) (w : World) (hl : l.length ≤ 1048576) (h : ReadSn w v l) :
  Calls Try.prog 7 #[v, lnV x (.slice sa ns cs)] w fun e w' => ∃ y, e = .returned y ∧ OwnSn w.heap.size w' y (takeL l x.kind x.num x.uid x.flags x.mod) ∧ Below w.heap.size w w' := by
 obtain ⟨k, n, u, f, m, s, b⟩ := x
 by_cases h1 : k = 1
 ·subst h1; exact impl_TakeLine_one l v n u f m b sa ns cs w hl h
 by_cases h2 : k = 2
 ·subst h2; exact impl_TakeLine_two l v n u f m b sa ns cs w hl h
 by_cases h3 : k = 3
 ·subst h3; exact impl_TakeLine_three l v n u f m b sa ns cs w hl h
 by_cases h9 : k = 9
 ·subst h9; exact impl_TakeLine_nine l v n u f m b sa ns cs w hl h
 exact impl_TakeLine_else l v k n u f m b sa ns cs w hl h h1 h2 h3 h9
end Go.Proofs.Ytgdihceikhkddaa
