/- Boxes that are drawn out of bytes, and what is told of them. Made by gen_boxestold.py. -/
import Derived.Test.YtlngjflhbkannaaGreatDrawAny
import Derived.Test.YtlngjflhbkannaaGreatDrawTold
import Derived.Test.YtlngjflhbkannaaGreatDwA
import Derived.Test.YtlngjflhbkannaaGreatDwB
namespace Go.Proofs.YtlngjflhbkannaaGreat
open Go.RowKit
open Plain
set_option linter.unusedVariables false
set_option linter.unusedSimpArgs false

namespace Plain
theorem expV_few (b : Bx) (s : List Rg) (h1 : b.mails.length ≤ 1048576) (h2 : b.tombs.length ≤ 1048576) : (expV b s).1.mails.length ≤ 1048576 ∧ (expV b s).1.tombs.length ≤ 1048576 ∧ (expV b s).2.length ≤ 1048576 := by
 unfold expV
 split
 ·rename_i x
  have hp := head_parts (boxOk_iff.1 x.2.2).1
  have hb : boxOk b = true := by have := x.1; rw [Bool.and_eq_true] at this; exact this.1
  obtain ⟨g1, g2⟩ := goneM_right (s := s) hb
  have hu := (uidsV_inv _ (goneM s b.mails) rfl (by omega) g2).2.1
  exact ⟨Nat.le_trans hp.2.2.2.2.1 (by decide), Nat.le_trans hp.2.2.2.2.2.1 (by decide), by show (uidsV (goneM s b.mails)).length ≤ _; omega⟩
 ·exact ⟨h1, h2, by simp⟩
theorem flagsV_few (b : Bx) (s : List Rg) (how bits since : Int) (h1 : b.mails.length ≤ 1048576) (h2 : b.tombs.length ≤ 1048576) : (flagsV b s how bits since).1.mails.length ≤ 1048576 ∧ (flagsV b s how bits since).1.tombs.length ≤ 1048576 ∧ (flagsV b s how bits since).2.1.length ≤ 1048576 ∧ (flagsV b s how bits since).2.2.length ≤ 1048576 := by
 unfold flagsV
 split
 ·have h9 := fg_len b s how bits since b.mails.length (Nat.le_refl _)
  rw [fg_all] at h9
  exact ⟨by show (fgOf b s how bits since).ms.length ≤ _; omega, h2, by show (fgOf b s how bits since).done.length ≤ _; omega, by show (fgOf b s how bits since).late.length ≤ _; omega⟩
 ·exact ⟨h1, h2, by simp, by simp⟩
theorem forgetV_few (b : Bx) (upto : Int) (h1 : b.mails.length ≤ 1048576) (h2 : b.tombs.length ≤ 1048576) : (forgetV b upto).mails.length ≤ 1048576 ∧ (forgetV b upto).tombs.length ≤ 1048576 := by
 unfold forgetV
 split
 ·exact ⟨h1, Nat.le_trans (List.length_filter_le _ _) h2⟩
 ·exact ⟨h1, h2⟩
theorem addV_few (b : Bx) (f : Int) (t : ByteArray) (h1 : b.mails.length ≤ 1048576) (h2 : b.tombs.length ≤ 1048576) : (addV b f t).1.mails.length ≤ 1048576 ∧ (addV b f t).1.tombs.length ≤ 1048576 := by
 unfold addV
 split
 ·rename_i x
  have hp := head_parts (boxOk_iff.1 x.2).1
  exact ⟨Nat.le_trans hp.2.2.2.2.1 (by decide), Nat.le_trans hp.2.2.2.2.2.1 (by decide)⟩
 ·exact ⟨h1, h2⟩
theorem addV_told (b : Bx) (f : Int) (t : ByteArray) : (addV b f t).2 ≤ 0 → (addV b f t).1 = b := by
 unfold addV
 split
 ·rename_i x
  have hn := inI_iff.1 (head_parts (boxOk_iff.1 x.1).1).2.2.1
  intro h
  have h : b.next ≤ 0 := h
  omega
 ·intro _; rfl
theorem newV_told (n : ByteArray) (v : Int) : (newV n v).2 = true → boxOk (newV n v).1 = true := by
 unfold newV
 split
 ·intro _; assumption
 ·intro h; cases h
theorem newV_rows (n : ByteArray) (v : Int) : (newV n v).1.mails = [] ∧ (newV n v).1.tombs = [] := by
 unfold newV
 split
 ·exact ⟨rfl, rfl⟩
 ·exact ⟨rfl, rfl⟩
end Plain
set_option maxHeartbeats 4000000 in
set_option maxRecDepth 100000 in
theorem DrawAddMail_any (B len cap : Nat) (a : Option Addr) (w : World) (ha : Arg B w a len) (hB : B ≤ w.heap.size) :
  Calls Tryz.prog 17 #[.slice a len cap] w fun e w' => ∃ (b : Bx) (m t : Value) (z : Int) (tx : ByteArray), e = .returned (.tuple #[boxV b m t, .int .i64 z, .string tx]) ∧ AnyBx b ∧ OwnBx w.heap.size w' m t b ∧ tx.size ≤ 1000 ∧ Below w.heap.size w w' := by
 have HA := hide (fun (W : World) (hb : Below B w W) => ha.below hb)
 clear ha; have BB := hide (Below.refl w.heap.size w)
 obtain ⟨w1, hR⟩ : ∃ X, X = w.alloc (.cells ([.string ⟨#[]⟩, .int .i64 0, .int .i64 0, .int .i64 0, .slice none 0 0, .slice none 0 0, .int .i64 0] : List Value).toArray 50) := ⟨_, rfl⟩
 have Rx : HasObj w1 w.heap.size 50 [.string ⟨#[]⟩, .int .i64 0, .int .i64 0, .int .i64 0, .slice none 0 0, .slice none 0 0, .int .i64 0] := by rw [hR]; exact HasObj.new _ _ _
 have hbn : Below w.heap.size w w1 := by rw [hR]; exact (Below.refl _ _).alloc (Nat.le_refl _) _
 have loR : w.heap.size ≤ w.heap.size := (uh BB).size
 have ER := hR.symm; clear hR; have sz1 := hide (hbn.size); replace BB := hide (below_y (uh BB) hbn); clear hbn; have R := hide Rx; clear Rx; have q1 := hide (l01New_any B len cap a w1 (uh HA w1 ((uh BB).mono hB)) (Nat.le_trans hB (uh BB).size)); have nB := (uh BB).size; have nR := (uh R).lt
 go_enter Tryz.func17, Tryz.ntmps17
 go_wp2_with fail; clear ER
 refine (uh q1).mono ?_
 rintro e w2 ⟨rfl, hc1, hg1⟩
 have hb := g_below hg1; have CU := hide hc1
 have szc : w1.heap.size < w2.heap.size := hc1.lt.2
 clear q1 hg1 hc1; replace R := hide ((uh R).ups hb); have sz2 := hide (hb.size); replace BB := hide (below_y (uh BB) hb); clear hb; go_wp2_with fail
 refine (placeF_any B w1.heap.size 31 _ (uh CU) (by decide) (by decide)).mono ?_
 rintro e w3 ⟨z, hz1, hz2, rfl, hc, hg⟩
 clear hz1 hz2
 replace R := hide ((uh R).kept hg (fun e => by have q1_ := Option.some.inj e; omega))
 have sz3 := hide (hg.size)
 replace BB : Hid (Below w.heap.size w w3) := (uh BB).grown hg (uh BB).size (fun k hk => by have q1_ := Option.some.inj hk; omega)
 clear CU; have CU := hide hc; clear hg hc; go_wp2_with fail
 refine (l07Any_any B w1.heap.size _ (uh CU)).mono ?_
 rintro e w4 ⟨tx, htx, rfl, hc, hg⟩
 replace R := hide ((uh R).kept hg (fun e => by have q1_ := Option.some.inj e; omega))
 have sz4 := hide (hg.size)
 replace BB : Hid (Below w.heap.size w w4) := (uh BB).grown hg (uh BB).size (fun k hk => by have q1_ := Option.some.inj hk; omega)
 clear CU; have CU := hide hc; clear hg hc; go_wp2_with fail
 refine (l08Any_any B w1.heap.size _ (uh CU)).mono ?_
 rintro e w5 ⟨b, mB, tB, rfl, hany, oB, hc, hg⟩
 obtain ⟨am, cm, rfl⟩ := g_shape oB.1
 obtain ⟨at1, ct1, rfl⟩ := g_shape oB.2
 have OB_ := hide oB; have AN := hide hany; clear oB hany
 replace R := hide ((uh R).kept hg (fun e => by have q1_ := Option.some.inj e; omega))
 have sz5 := hide (hg.size)
 replace BB : Hid (Below w.heap.size w w5) := (uh BB).grown hg (uh BB).size (fun k hk => by have q1_ := Option.some.inj hk; omega)
 clear CU; have CU := hide hc; clear hg hc
 have OB : Hid (OwnBx w.heap.size w5 (.slice am b.mails.length cm) (.slice at1 b.tombs.length ct1) b) := (uh OB_).based (by have q1_ := (uh BB).size; have sz1_ := uh sz1; have sz2_ := uh sz2; have sz3_ := uh sz3; have sz4_ := uh sz4; have sz5_ := uh sz5; omega)
 clear OB_; have Rf0 := (uh R).frozen 0; have Rf1 := (uh R).frozen 1; have Rf2 := (uh R).frozen 2; have Rf3 := (uh R).frozen 3; have Rf4 := (uh R).frozen 4; have Rf5 := (uh R).frozen 5; have Rf6 := (uh R).frozen 6; have Re0 := (uh R).cell 0 rfl; have Re1 := (uh R).cell 1 rfl; have Re2 := (uh R).cell 2 rfl; have Re3 := (uh R).cell 3 rfl; have Re4 := (uh R).cell 4 rfl; have Re5 := (uh R).cell 5 rfl; have Re6 := (uh R).cell 6 rfl; have F := hide (fill7 (uh R) (.string b.name) (.int .i64 b.valid) (.int .i64 b.next) (.int .i64 b.mod) (.slice am b.mails.length cm) (.slice at1 b.tombs.length ct1) (.int .i64 b.hor))
 obtain ⟨U, hU⟩ : ∃ U, U = (((((((w5.setCell ⟨w.heap.size, 0, none⟩ (.string b.name)).setCell ⟨w.heap.size, 1, none⟩ (.int .i64 b.valid)).setCell ⟨w.heap.size, 2, none⟩ (.int .i64 b.next)).setCell ⟨w.heap.size, 3, none⟩ (.int .i64 b.mod)).setCell ⟨w.heap.size, 4, none⟩ (.slice am b.mails.length cm)).setCell ⟨w.heap.size, 5, none⟩ (.slice at1 b.tombs.length ct1)).setCell ⟨w.heap.size, 6, none⟩ (.int .i64 b.hor)) := ⟨_, rfl⟩
 have F9 := uh F
 rw [← hU] at F9
 have EU := hU.symm; clear F hU; have v0 := F9.obj.cell 0 rfl; have v1 := F9.obj.cell 1 rfl; have v2 := F9.obj.cell 2 rfl; have v3 := F9.obj.cell 3 rfl; have v4 := F9.obj.cell 4 rfl; have v5 := F9.obj.cell 5 rfl; have v6 := F9.obj.cell 6 rfl; have F := hide F9; clear F9
 go_wp2_with (refine bodyPost_ret (by simp [results, Tryz.results17, go_sem, v0, v1, v2, v3, v4, v5, v6]; try rfl) rfl ?_)
 clear EU; have F := uh F
 exact ⟨b, _, _, _, _, rfl, uh AN, ⟨F.row (by decide) (uh OB).1, F.row (by decide) (uh OB).2⟩, htx, F.below loR (uh BB)⟩
set_option maxHeartbeats 4000000 in
set_option maxRecDepth 100000 in
theorem l08Since_any (B len cap : Nat) (a : Option Addr) (w : World) (ha : Arg B w a len) (hB : B ≤ w.heap.size) :
  Calls Tryz.prog 89 #[.slice a len cap] w fun e w' => ∃ (b : Bx) (m t : Value) (z : Int), e = .returned (.tuple #[boxV b m t, .int .i64 z]) ∧ AnyBx b ∧ OwnBx w.heap.size w' m t b ∧ Below w.heap.size w w' := by
 have HA := hide (fun (W : World) (hb : Below B w W) => ha.below hb)
 clear ha; have BB := hide (Below.refl w.heap.size w)
 obtain ⟨w1, hR⟩ : ∃ X, X = w.alloc (.cells ([.string ⟨#[]⟩, .int .i64 0, .int .i64 0, .int .i64 0, .slice none 0 0, .slice none 0 0, .int .i64 0] : List Value).toArray 50) := ⟨_, rfl⟩
 have Rx : HasObj w1 w.heap.size 50 [.string ⟨#[]⟩, .int .i64 0, .int .i64 0, .int .i64 0, .slice none 0 0, .slice none 0 0, .int .i64 0] := by rw [hR]; exact HasObj.new _ _ _
 have hbn : Below w.heap.size w w1 := by rw [hR]; exact (Below.refl _ _).alloc (Nat.le_refl _) _
 have loR : w.heap.size ≤ w.heap.size := (uh BB).size
 have ER := hR.symm; clear hR; have sz1 := hide (hbn.size); replace BB := hide (below_y (uh BB) hbn); clear hbn; have R := hide Rx; clear Rx; have q1 := hide (l01New_any B len cap a w1 (uh HA w1 ((uh BB).mono hB)) (Nat.le_trans hB (uh BB).size)); have nB := (uh BB).size; have nR := (uh R).lt
 go_enter Tryz.func89, Tryz.ntmps89
 go_wp2_with fail; clear ER
 refine (uh q1).mono ?_
 rintro e w2 ⟨rfl, hc1, hg1⟩
 have hb := g_below hg1; have CU := hide hc1
 have szc : w1.heap.size < w2.heap.size := hc1.lt.2
 clear q1 hg1 hc1; replace R := hide ((uh R).ups hb); have sz2 := hide (hb.size); replace BB := hide (below_y (uh BB) hb); clear hb; go_wp2_with fail
 refine (pick_of [0, 1, 3, 6, 10, 15, -1, 100000, 9223372036854775807] B w1.heap.size _ (uh CU) (by decide) (by decide)).mono ?_
 rintro e w3 ⟨z, hz, rfl, hc, hg⟩
 clear hz
 replace R := hide ((uh R).kept hg (fun e => by have q1_ := Option.some.inj e; omega))
 have sz3 := hide (hg.size)
 replace BB : Hid (Below w.heap.size w w3) := (uh BB).grown hg (uh BB).size (fun k hk => by have q1_ := Option.some.inj hk; omega)
 clear CU; have CU := hide hc; clear hg hc; go_wp2_with fail
 refine (l08Any_any B w1.heap.size _ (uh CU)).mono ?_
 rintro e w4 ⟨b, mB, tB, rfl, hany, oB, hc, hg⟩
 obtain ⟨am, cm, rfl⟩ := g_shape oB.1
 obtain ⟨at1, ct1, rfl⟩ := g_shape oB.2
 have OB_ := hide oB; have AN := hide hany; clear oB hany
 replace R := hide ((uh R).kept hg (fun e => by have q1_ := Option.some.inj e; omega))
 have sz4 := hide (hg.size)
 replace BB : Hid (Below w.heap.size w w4) := (uh BB).grown hg (uh BB).size (fun k hk => by have q1_ := Option.some.inj hk; omega)
 clear CU; have CU := hide hc; clear hg hc
 have OB : Hid (OwnBx w.heap.size w4 (.slice am b.mails.length cm) (.slice at1 b.tombs.length ct1) b) := (uh OB_).based (by have q1_ := (uh BB).size; have sz1_ := uh sz1; have sz2_ := uh sz2; have sz3_ := uh sz3; have sz4_ := uh sz4; omega)
 clear OB_; have Rf0 := (uh R).frozen 0; have Rf1 := (uh R).frozen 1; have Rf2 := (uh R).frozen 2; have Rf3 := (uh R).frozen 3; have Rf4 := (uh R).frozen 4; have Rf5 := (uh R).frozen 5; have Rf6 := (uh R).frozen 6; have Re0 := (uh R).cell 0 rfl; have Re1 := (uh R).cell 1 rfl; have Re2 := (uh R).cell 2 rfl; have Re3 := (uh R).cell 3 rfl; have Re4 := (uh R).cell 4 rfl; have Re5 := (uh R).cell 5 rfl; have Re6 := (uh R).cell 6 rfl; have F := hide (fill7 (uh R) (.string b.name) (.int .i64 b.valid) (.int .i64 b.next) (.int .i64 b.mod) (.slice am b.mails.length cm) (.slice at1 b.tombs.length ct1) (.int .i64 b.hor))
 obtain ⟨U, hU⟩ : ∃ U, U = (((((((w4.setCell ⟨w.heap.size, 0, none⟩ (.string b.name)).setCell ⟨w.heap.size, 1, none⟩ (.int .i64 b.valid)).setCell ⟨w.heap.size, 2, none⟩ (.int .i64 b.next)).setCell ⟨w.heap.size, 3, none⟩ (.int .i64 b.mod)).setCell ⟨w.heap.size, 4, none⟩ (.slice am b.mails.length cm)).setCell ⟨w.heap.size, 5, none⟩ (.slice at1 b.tombs.length ct1)).setCell ⟨w.heap.size, 6, none⟩ (.int .i64 b.hor)) := ⟨_, rfl⟩
 have F9 := uh F
 rw [← hU] at F9
 have EU := hU.symm; clear F hU; have v0 := F9.obj.cell 0 rfl; have v1 := F9.obj.cell 1 rfl; have v2 := F9.obj.cell 2 rfl; have v3 := F9.obj.cell 3 rfl; have v4 := F9.obj.cell 4 rfl; have v5 := F9.obj.cell 5 rfl; have v6 := F9.obj.cell 6 rfl; have F := hide F9; clear F9
 go_wp2_with (refine bodyPost_ret (by simp [results, Tryz.results89, go_sem, v0, v1, v2, v3, v4, v5, v6]; try rfl) rfl ?_)
 clear EU; have F := uh F
 exact ⟨b, _, _, _, rfl, uh AN, ⟨F.row (by decide) (uh OB).1, F.row (by decide) (uh OB).2⟩, F.below loR (uh BB)⟩
set_option maxHeartbeats 4000000 in
set_option maxRecDepth 100000 in
theorem DrawForgetTombs_any (B len cap : Nat) (a : Option Addr) (w : World) (ha : Arg B w a len) (hB : B ≤ w.heap.size) :
  Calls Tryz.prog 26 #[.slice a len cap] w fun e w' => ∃ (b : Bx) (m t : Value) (z : Int), e = .returned (.tuple #[boxV b m t, .int .i64 z]) ∧ AnyBx b ∧ OwnBx w.heap.size w' m t b ∧ Below w.heap.size w w' := by
 have HA := hide (fun (W : World) (hb : Below B w W) => ha.below hb)
 clear ha; have BB := hide (Below.refl w.heap.size w)
 obtain ⟨w1, hR⟩ : ∃ X, X = w.alloc (.cells ([.string ⟨#[]⟩, .int .i64 0, .int .i64 0, .int .i64 0, .slice none 0 0, .slice none 0 0, .int .i64 0] : List Value).toArray 50) := ⟨_, rfl⟩
 have Rx : HasObj w1 w.heap.size 50 [.string ⟨#[]⟩, .int .i64 0, .int .i64 0, .int .i64 0, .slice none 0 0, .slice none 0 0, .int .i64 0] := by rw [hR]; exact HasObj.new _ _ _
 have hbn : Below w.heap.size w w1 := by rw [hR]; exact (Below.refl _ _).alloc (Nat.le_refl _) _
 have loR : w.heap.size ≤ w.heap.size := (uh BB).size
 have ER := hR.symm; clear hR; have sz1 := hide (hbn.size); replace BB := hide (below_y (uh BB) hbn); clear hbn; have R := hide Rx; clear Rx; have q1 := hide (l08Since_any B len cap a w1 (uh HA w1 ((uh BB).mono hB)) (Nat.le_trans hB (uh BB).size))
 go_enter Tryz.func26, Tryz.ntmps26
 go_wp2_with fail; clear ER
 have LO : Hid (w.heap.size ≤ w1.heap.size) := (uh BB).size
 refine (uh q1).mono ?_
 rintro e w2 ⟨b, mB, tB, z, rfl, hany, oB, hb⟩
 obtain ⟨am, cm, rfl⟩ := g_shape oB.1
 obtain ⟨at1, ct1, rfl⟩ := g_shape oB.2
 have OB := hide (oB.based (uh LO)); have AN := hide hany; clear oB hany q1; replace R := hide ((uh R).ups hb); have sz2 := hide (hb.size); replace BB := hide (below_y (uh BB) hb); clear hb; have Rf0 := (uh R).frozen 0; have Rf1 := (uh R).frozen 1; have Rf2 := (uh R).frozen 2; have Rf3 := (uh R).frozen 3; have Rf4 := (uh R).frozen 4; have Rf5 := (uh R).frozen 5; have Rf6 := (uh R).frozen 6; have Re0 := (uh R).cell 0 rfl; have Re1 := (uh R).cell 1 rfl; have Re2 := (uh R).cell 2 rfl; have Re3 := (uh R).cell 3 rfl; have Re4 := (uh R).cell 4 rfl; have Re5 := (uh R).cell 5 rfl; have Re6 := (uh R).cell 6 rfl; have F := hide (fill7 (uh R) (.string b.name) (.int .i64 b.valid) (.int .i64 b.next) (.int .i64 b.mod) (.slice am b.mails.length cm) (.slice at1 b.tombs.length ct1) (.int .i64 b.hor))
 obtain ⟨U, hU⟩ : ∃ U, U = (((((((w2.setCell ⟨w.heap.size, 0, none⟩ (.string b.name)).setCell ⟨w.heap.size, 1, none⟩ (.int .i64 b.valid)).setCell ⟨w.heap.size, 2, none⟩ (.int .i64 b.next)).setCell ⟨w.heap.size, 3, none⟩ (.int .i64 b.mod)).setCell ⟨w.heap.size, 4, none⟩ (.slice am b.mails.length cm)).setCell ⟨w.heap.size, 5, none⟩ (.slice at1 b.tombs.length ct1)).setCell ⟨w.heap.size, 6, none⟩ (.int .i64 b.hor)) := ⟨_, rfl⟩
 have F9 := uh F
 rw [← hU] at F9
 have EU := hU.symm; clear F hU; have v0 := F9.obj.cell 0 rfl; have v1 := F9.obj.cell 1 rfl; have v2 := F9.obj.cell 2 rfl; have v3 := F9.obj.cell 3 rfl; have v4 := F9.obj.cell 4 rfl; have v5 := F9.obj.cell 5 rfl; have v6 := F9.obj.cell 6 rfl; have F := hide F9; clear F9
 go_wp2_with (refine bodyPost_ret (by simp [results, Tryz.results26, go_sem, v0, v1, v2, v3, v4, v5, v6]; try rfl) rfl ?_)
 clear EU; have F := uh F
 exact ⟨b, _, _, z, rfl, uh AN, ⟨F.row (by decide) (uh OB).1, F.row (by decide) (uh OB).2⟩, F.below loR (uh BB)⟩
set_option maxHeartbeats 4000000 in
set_option maxRecDepth 100000 in
theorem DrawExpunge_any (B len cap : Nat) (a : Option Addr) (w : World) (ha : Arg B w a len) (hB : B ≤ w.heap.size) :
  Calls Tryz.prog 20 #[.slice a len cap] w fun e w' => ∃ (b : Bx) (m t : Value) (v : Value) (s : List Rg), e = .returned (.tuple #[boxV b m t, v]) ∧ AnyBx b ∧ OwnBx w.heap.size w' m t b ∧ OwnR w.heap.size w' v s ∧ s.length ≤ 41 ∧ Below w.heap.size w w' := by
 have HA := hide (fun (W : World) (hb : Below B w W) => ha.below hb)
 clear ha; have BB := hide (Below.refl w.heap.size w)
 obtain ⟨w1, hR⟩ : ∃ X, X = w.alloc (.cells ([.string ⟨#[]⟩, .int .i64 0, .int .i64 0, .int .i64 0, .slice none 0 0, .slice none 0 0, .int .i64 0] : List Value).toArray 50) := ⟨_, rfl⟩
 have Rx : HasObj w1 w.heap.size 50 [.string ⟨#[]⟩, .int .i64 0, .int .i64 0, .int .i64 0, .slice none 0 0, .slice none 0 0, .int .i64 0] := by rw [hR]; exact HasObj.new _ _ _
 have hbn : Below w.heap.size w w1 := by rw [hR]; exact (Below.refl _ _).alloc (Nat.le_refl _) _
 have loR : w.heap.size ≤ w.heap.size := (uh BB).size
 have ER := hR.symm; clear hR; have sz1 := hide (hbn.size); replace BB := hide (below_y (uh BB) hbn); clear hbn; have R := hide Rx; clear Rx; have q1 := hide (l01New_any B len cap a w1 (uh HA w1 ((uh BB).mono hB)) (Nat.le_trans hB (uh BB).size)); have nB := (uh BB).size; have nR := (uh R).lt
 go_enter Tryz.func20, Tryz.ntmps20
 go_wp2_with fail; clear ER
 refine (uh q1).mono ?_
 rintro e w2 ⟨rfl, hc1, hg1⟩
 have hb := g_below hg1; have CU := hide hc1
 have szc : w1.heap.size < w2.heap.size := hc1.lt.2
 clear q1 hg1 hc1; replace R := hide ((uh R).ups hb); have sz2 := hide (hb.size); replace BB := hide (below_y (uh BB) hb); clear hb; go_wp2_with fail
 refine (l05Any_any B w1.heap.size _ (uh CU)).mono ?_
 rintro e w3 ⟨vS, sS, rfl, hlS, hSS⟩
 have oS := hide hSS.own; have hc := hSS.cur; have hg := hSS.grown
 have LBRS : Hid (w1.heap.size < w2.heap.size) := by show _ < _; have sz1_ := uh sz1; have sz2_ := uh sz2; omega
 clear hSS
 replace R := hide ((uh R).kept hg (fun e => by have q1_ := Option.some.inj e; omega))
 have sz3 := hide (hg.size)
 replace BB : Hid (Below w.heap.size w w3) := (uh BB).grown hg (uh BB).size (fun k hk => by have q1_ := Option.some.inj hk; omega)
 clear CU; have CU := hide hc; clear hg hc; have RS := oS; clear oS; go_wp2_with fail
 refine (l01Once_any B w1.heap.size 3 _ (uh CU) (by decide) (by decide)).mono ?_
 rintro e w4 ⟨on, rfl, hc, hg⟩
 replace R := hide ((uh R).kept hg (fun e => by have q1_ := Option.some.inj e; omega))
 replace RS : Hid (OwnR w2.heap.size w4 (vS) (sS)) := g_aside (uh RS) hg (fun z hz hz2 => by have q1_ := Option.some.inj hz; have q2_ := (World.ownsRow.lt (uh RS) z hz2).1; have q3_ := uh LBRS; omega)
 have sz4 := hide (hg.size)
 replace BB : Hid (Below w.heap.size w w4) := (uh BB).grown hg (uh BB).size (fun k hk => by have q1_ := Option.some.inj hk; omega)
 clear CU; have CU := hide hc; clear hg hc
 cases on with
 | false =>
  go_wp2_with fail
  refine (l08Any_any B w1.heap.size _ (uh CU)).mono ?_
  rintro e wf5 ⟨b, mB, tB, rfl, hany, oB, hc, hg⟩
  obtain ⟨am, cm, rfl⟩ := g_shape oB.1
  obtain ⟨at1, ct1, rfl⟩ := g_shape oB.2
  have OB_ := hide oB; have AN := hide hany; clear oB hany
  replace R := hide ((uh R).kept hg (fun e => by have q1_ := Option.some.inj e; omega))
  replace RS : Hid (OwnR w2.heap.size wf5 (vS) (sS)) := g_aside (uh RS) hg (fun z hz hz2 => by have q1_ := Option.some.inj hz; have q2_ := (World.ownsRow.lt (uh RS) z hz2).1; have q3_ := uh LBRS; omega)
  have sz5 := hide (hg.size)
  replace BB : Hid (Below w.heap.size w wf5) := (uh BB).grown hg (uh BB).size (fun k hk => by have q1_ := Option.some.inj hk; omega)
  clear CU; have CU := hide hc; clear hg hc
  have OB : Hid (OwnBx w.heap.size wf5 (.slice am b.mails.length cm) (.slice at1 b.tombs.length ct1) b) := (uh OB_).based (by have q1_ := (uh BB).size; have sz1_ := uh sz1; have sz2_ := uh sz2; have sz3_ := uh sz3; have sz4_ := uh sz4; have sz5_ := uh sz5; omega)
  clear OB_; have Rf0 := (uh R).frozen 0; have Rf1 := (uh R).frozen 1; have Rf2 := (uh R).frozen 2; have Rf3 := (uh R).frozen 3; have Rf4 := (uh R).frozen 4; have Rf5 := (uh R).frozen 5; have Rf6 := (uh R).frozen 6; have Re0 := (uh R).cell 0 rfl; have Re1 := (uh R).cell 1 rfl; have Re2 := (uh R).cell 2 rfl; have Re3 := (uh R).cell 3 rfl; have Re4 := (uh R).cell 4 rfl; have Re5 := (uh R).cell 5 rfl; have Re6 := (uh R).cell 6 rfl; have F := hide (fill7 (uh R) (.string b.name) (.int .i64 b.valid) (.int .i64 b.next) (.int .i64 b.mod) (.slice am b.mails.length cm) (.slice at1 b.tombs.length ct1) (.int .i64 b.hor))
  obtain ⟨U, hU⟩ : ∃ U, U = (((((((wf5.setCell ⟨w.heap.size, 0, none⟩ (.string b.name)).setCell ⟨w.heap.size, 1, none⟩ (.int .i64 b.valid)).setCell ⟨w.heap.size, 2, none⟩ (.int .i64 b.next)).setCell ⟨w.heap.size, 3, none⟩ (.int .i64 b.mod)).setCell ⟨w.heap.size, 4, none⟩ (.slice am b.mails.length cm)).setCell ⟨w.heap.size, 5, none⟩ (.slice at1 b.tombs.length ct1)).setCell ⟨w.heap.size, 6, none⟩ (.int .i64 b.hor)) := ⟨_, rfl⟩
  have F9 := uh F
  rw [← hU] at F9
  have EU := hU.symm; clear F hU; have v0 := F9.obj.cell 0 rfl; have v1 := F9.obj.cell 1 rfl; have v2 := F9.obj.cell 2 rfl; have v3 := F9.obj.cell 3 rfl; have v4 := F9.obj.cell 4 rfl; have v5 := F9.obj.cell 5 rfl; have v6 := F9.obj.cell 6 rfl; have F := hide F9; clear F9
  go_wp2_with (refine bodyPost_ret (by simp [results, Tryz.results20, go_sem, v0, v1, v2, v3, v4, v5, v6]; try rfl) rfl ?_)
  clear EU; have F := uh F
  exact ⟨b, _, _, _, sS, rfl, uh AN, ⟨F.row (by decide) (uh OB).1, F.row (by decide) (uh OB).2⟩, F.row (by decide) (g_based (uh RS) (by have q1_ := uh LBRS; omega)), hlS, F.below loR (uh BB)⟩
 | true =>
  clear RS LBRS
  obtain ⟨wt5, hM⟩ : ∃ X, X = w4.alloc (.cells (#[.int .i64 1, .int .i64 9999] : Array Value) 106) := ⟨_, rfl⟩
  have RS_ : Hid (OwnR w4.heap.size wt5 (.slice (some ⟨w4.heap.size, 0, none⟩) 1 1) [⟨1, 9999⟩]) := by show OwnR _ _ _ _; rw [hM]; exact World.ownsRow_lit (size := 2) (e := 106) w4 #[.int .i64 1, .int .i64 9999] 1 (Nat.le_refl _) (by unfold maxLen; omega) rfl
  have hbn : Below w4.heap.size w4 wt5 := by rw [hM]; exact (Below.refl _ _).alloc (Nat.le_refl _) _
  have EM := hM.symm
  have LBRS : Hid (w1.heap.size < w4.heap.size) := by show _ < _; have sz1_ := uh sz1; have sz2_ := uh sz2; have sz3_ := uh sz3; have sz4_ := uh sz4; omega
  clear hM
  replace CU := hide ((uh CU).kept (below_g0 hbn) (fun k hk => by cases hk))
  replace R := hide ((uh R).ups hbn); have sz5 := hide (hbn.size); replace BB := hide (below_y (uh BB) hbn); clear hbn; have RS := RS_; clear RS_; go_wp2_with fail; clear EM
  refine (l08Any_any B w1.heap.size _ (uh CU)).mono ?_
  rintro e wt6 ⟨b, mB, tB, rfl, hany, oB, hc, hg⟩
  obtain ⟨am, cm, rfl⟩ := g_shape oB.1
  obtain ⟨at1, ct1, rfl⟩ := g_shape oB.2
  have OB_ := hide oB; have AN := hide hany; clear oB hany
  replace R := hide ((uh R).kept hg (fun e => by have q1_ := Option.some.inj e; omega))
  replace RS : Hid (OwnR w4.heap.size wt6 (.slice (some ⟨w4.heap.size, 0, none⟩) 1 1) ([⟨1, 9999⟩])) := g_aside (uh RS) hg (fun z hz hz2 => by have q1_ := Option.some.inj hz; have q2_ := (World.ownsRow.lt (uh RS) z hz2).1; have q3_ := uh LBRS; omega)
  have sz6 := hide (hg.size)
  replace BB : Hid (Below w.heap.size w wt6) := (uh BB).grown hg (uh BB).size (fun k hk => by have q1_ := Option.some.inj hk; omega)
  clear CU; have CU := hide hc; clear hg hc
  have OB : Hid (OwnBx w.heap.size wt6 (.slice am b.mails.length cm) (.slice at1 b.tombs.length ct1) b) := (uh OB_).based (by have q1_ := (uh BB).size; have sz1_ := uh sz1; have sz2_ := uh sz2; have sz3_ := uh sz3; have sz4_ := uh sz4; have sz5_ := uh sz5; have sz6_ := uh sz6; omega)
  clear OB_; have Rf0 := (uh R).frozen 0; have Rf1 := (uh R).frozen 1; have Rf2 := (uh R).frozen 2; have Rf3 := (uh R).frozen 3; have Rf4 := (uh R).frozen 4; have Rf5 := (uh R).frozen 5; have Rf6 := (uh R).frozen 6; have Re0 := (uh R).cell 0 rfl; have Re1 := (uh R).cell 1 rfl; have Re2 := (uh R).cell 2 rfl; have Re3 := (uh R).cell 3 rfl; have Re4 := (uh R).cell 4 rfl; have Re5 := (uh R).cell 5 rfl; have Re6 := (uh R).cell 6 rfl; have F := hide (fill7 (uh R) (.string b.name) (.int .i64 b.valid) (.int .i64 b.next) (.int .i64 b.mod) (.slice am b.mails.length cm) (.slice at1 b.tombs.length ct1) (.int .i64 b.hor))
  obtain ⟨U, hU⟩ : ∃ U, U = (((((((wt6.setCell ⟨w.heap.size, 0, none⟩ (.string b.name)).setCell ⟨w.heap.size, 1, none⟩ (.int .i64 b.valid)).setCell ⟨w.heap.size, 2, none⟩ (.int .i64 b.next)).setCell ⟨w.heap.size, 3, none⟩ (.int .i64 b.mod)).setCell ⟨w.heap.size, 4, none⟩ (.slice am b.mails.length cm)).setCell ⟨w.heap.size, 5, none⟩ (.slice at1 b.tombs.length ct1)).setCell ⟨w.heap.size, 6, none⟩ (.int .i64 b.hor)) := ⟨_, rfl⟩
  have F9 := uh F
  rw [← hU] at F9
  have EU := hU.symm; clear F hU; have v0 := F9.obj.cell 0 rfl; have v1 := F9.obj.cell 1 rfl; have v2 := F9.obj.cell 2 rfl; have v3 := F9.obj.cell 3 rfl; have v4 := F9.obj.cell 4 rfl; have v5 := F9.obj.cell 5 rfl; have v6 := F9.obj.cell 6 rfl; have F := hide F9; clear F9
  go_wp2_with (refine bodyPost_ret (by simp [results, Tryz.results20, go_sem, v0, v1, v2, v3, v4, v5, v6]; try rfl) rfl ?_)
  clear EU; have F := uh F
  exact ⟨b, _, _, _, [⟨1, 9999⟩], rfl, uh AN, ⟨F.row (by decide) (uh OB).1, F.row (by decide) (uh OB).2⟩, F.row (by decide) (g_based (uh RS) (by have q1_ := uh LBRS; omega)), by decide, F.below loR (uh BB)⟩
set_option maxHeartbeats 4000000 in
set_option maxRecDepth 100000 in
theorem DrawSetFlags_any (B len cap : Nat) (a : Option Addr) (w : World) (ha : Arg B w a len) (hB : B ≤ w.heap.size) :
  Calls Tryz.prog 23 #[.slice a len cap] w fun e w' => ∃ (b : Bx) (m t : Value) (v : Value) (s : List Rg) (how bits since : Int), e = .returned (.tuple #[boxV b m t, v, .int .i64 how, .int .i64 bits, .int .i64 since]) ∧ AnyBx b ∧ OwnBx w.heap.size w' m t b ∧ OwnR w.heap.size w' v s ∧ s.length ≤ 41 ∧ Below w.heap.size w w' := by
 have HA := hide (fun (W : World) (hb : Below B w W) => ha.below hb)
 clear ha; have BB := hide (Below.refl w.heap.size w)
 obtain ⟨w1, hR⟩ : ∃ X, X = w.alloc (.cells ([.string ⟨#[]⟩, .int .i64 0, .int .i64 0, .int .i64 0, .slice none 0 0, .slice none 0 0, .int .i64 0] : List Value).toArray 50) := ⟨_, rfl⟩
 have Rx : HasObj w1 w.heap.size 50 [.string ⟨#[]⟩, .int .i64 0, .int .i64 0, .int .i64 0, .slice none 0 0, .slice none 0 0, .int .i64 0] := by rw [hR]; exact HasObj.new _ _ _
 have hbn : Below w.heap.size w w1 := by rw [hR]; exact (Below.refl _ _).alloc (Nat.le_refl _) _
 have loR : w.heap.size ≤ w.heap.size := (uh BB).size
 have ER := hR.symm; clear hR; have sz1 := hide (hbn.size); replace BB := hide (below_y (uh BB) hbn); clear hbn; have R := hide Rx; clear Rx; have q1 := hide (l01New_any B len cap a w1 (uh HA w1 ((uh BB).mono hB)) (Nat.le_trans hB (uh BB).size)); have nB := (uh BB).size; have nR := (uh R).lt
 go_enter Tryz.func23, Tryz.ntmps23
 go_wp2_with fail; clear ER
 refine (uh q1).mono ?_
 rintro e w2 ⟨rfl, hc1, hg1⟩
 have hb := g_below hg1; have CU := hide hc1
 have szc : w1.heap.size < w2.heap.size := hc1.lt.2
 clear q1 hg1 hc1; replace R := hide ((uh R).ups hb); have sz2 := hide (hb.size); replace BB := hide (below_y (uh BB) hb); clear hb; go_wp2_with fail
 refine (l05Any_any B w1.heap.size _ (uh CU)).mono ?_
 rintro e w3 ⟨vS, sS, rfl, hlS, hSS⟩
 have oS := hide hSS.own; have hc := hSS.cur; have hg := hSS.grown
 have LBRS : Hid (w1.heap.size < w2.heap.size) := by show _ < _; have sz1_ := uh sz1; have sz2_ := uh sz2; omega
 clear hSS
 replace R := hide ((uh R).kept hg (fun e => by have q1_ := Option.some.inj e; omega))
 have sz3 := hide (hg.size)
 replace BB : Hid (Below w.heap.size w w3) := (uh BB).grown hg (uh BB).size (fun k hk => by have q1_ := Option.some.inj hk; omega)
 clear CU; have CU := hide hc; clear hg hc; have RS := oS; clear oS; go_wp2_with fail
 refine (pick_of [1, 2, 3, 2, 3, 0, 4] B w1.heap.size _ (uh CU) (by decide) (by decide)).mono ?_
 rintro e w4 ⟨how, hh, rfl, hc, hg⟩
 clear hh
 replace R := hide ((uh R).kept hg (fun e => by have q1_ := Option.some.inj e; omega))
 replace RS : Hid (OwnR w2.heap.size w4 (vS) (sS)) := g_aside (uh RS) hg (fun z hz hz2 => by have q1_ := Option.some.inj hz; have q2_ := (World.ownsRow.lt (uh RS) z hz2).1; have q3_ := uh LBRS; omega)
 have sz4 := hide (hg.size)
 replace BB : Hid (Below w.heap.size w w4) := (uh BB).grown hg (uh BB).size (fun k hk => by have q1_ := Option.some.inj hk; omega)
 clear CU; have CU := hide hc; clear hg hc; go_wp2_with fail
 refine (belowS_lit B w1.heap.size 33 33 rfl _ (uh CU) (by decide) (by decide)).mono ?_
 rintro e w5 ⟨bits, hbi, rfl, hc, hg⟩
 clear hbi
 replace R := hide ((uh R).kept hg (fun e => by have q1_ := Option.some.inj e; omega))
 replace RS : Hid (OwnR w2.heap.size w5 (vS) (sS)) := g_aside (uh RS) hg (fun z hz hz2 => by have q1_ := Option.some.inj hz; have q2_ := (World.ownsRow.lt (uh RS) z hz2).1; have q3_ := uh LBRS; omega)
 have sz5 := hide (hg.size)
 replace BB : Hid (Below w.heap.size w w5) := (uh BB).grown hg (uh BB).size (fun k hk => by have q1_ := Option.some.inj hk; omega)
 clear CU; have CU := hide hc; clear hg hc; go_wp2_with fail
 refine (pick_of [-1, -1, 0, 3, 8, 100000] B w1.heap.size _ (uh CU) (by decide) (by decide)).mono ?_
 rintro e w6 ⟨since, hh, rfl, hc, hg⟩
 clear hh
 replace R := hide ((uh R).kept hg (fun e => by have q1_ := Option.some.inj e; omega))
 replace RS : Hid (OwnR w2.heap.size w6 (vS) (sS)) := g_aside (uh RS) hg (fun z hz hz2 => by have q1_ := Option.some.inj hz; have q2_ := (World.ownsRow.lt (uh RS) z hz2).1; have q3_ := uh LBRS; omega)
 have sz6 := hide (hg.size)
 replace BB : Hid (Below w.heap.size w w6) := (uh BB).grown hg (uh BB).size (fun k hk => by have q1_ := Option.some.inj hk; omega)
 clear CU; have CU := hide hc; clear hg hc; go_wp2_with fail
 refine (l08Any_any B w1.heap.size _ (uh CU)).mono ?_
 rintro e w7 ⟨b, mB, tB, rfl, hany, oB, hc, hg⟩
 obtain ⟨am, cm, rfl⟩ := g_shape oB.1
 obtain ⟨at1, ct1, rfl⟩ := g_shape oB.2
 have OB_ := hide oB; have AN := hide hany; clear oB hany
 replace R := hide ((uh R).kept hg (fun e => by have q1_ := Option.some.inj e; omega))
 replace RS : Hid (OwnR w2.heap.size w7 (vS) (sS)) := g_aside (uh RS) hg (fun z hz hz2 => by have q1_ := Option.some.inj hz; have q2_ := (World.ownsRow.lt (uh RS) z hz2).1; have q3_ := uh LBRS; omega)
 have sz7 := hide (hg.size)
 replace BB : Hid (Below w.heap.size w w7) := (uh BB).grown hg (uh BB).size (fun k hk => by have q1_ := Option.some.inj hk; omega)
 clear CU; have CU := hide hc; clear hg hc
 have OB : Hid (OwnBx w.heap.size w7 (.slice am b.mails.length cm) (.slice at1 b.tombs.length ct1) b) := (uh OB_).based (by have q1_ := (uh BB).size; have sz1_ := uh sz1; have sz2_ := uh sz2; have sz3_ := uh sz3; have sz4_ := uh sz4; have sz5_ := uh sz5; have sz6_ := uh sz6; have sz7_ := uh sz7; omega)
 clear OB_; have Rf0 := (uh R).frozen 0; have Rf1 := (uh R).frozen 1; have Rf2 := (uh R).frozen 2; have Rf3 := (uh R).frozen 3; have Rf4 := (uh R).frozen 4; have Rf5 := (uh R).frozen 5; have Rf6 := (uh R).frozen 6; have Re0 := (uh R).cell 0 rfl; have Re1 := (uh R).cell 1 rfl; have Re2 := (uh R).cell 2 rfl; have Re3 := (uh R).cell 3 rfl; have Re4 := (uh R).cell 4 rfl; have Re5 := (uh R).cell 5 rfl; have Re6 := (uh R).cell 6 rfl; have F := hide (fill7 (uh R) (.string b.name) (.int .i64 b.valid) (.int .i64 b.next) (.int .i64 b.mod) (.slice am b.mails.length cm) (.slice at1 b.tombs.length ct1) (.int .i64 b.hor))
 obtain ⟨U, hU⟩ : ∃ U, U = (((((((w7.setCell ⟨w.heap.size, 0, none⟩ (.string b.name)).setCell ⟨w.heap.size, 1, none⟩ (.int .i64 b.valid)).setCell ⟨w.heap.size, 2, none⟩ (.int .i64 b.next)).setCell ⟨w.heap.size, 3, none⟩ (.int .i64 b.mod)).setCell ⟨w.heap.size, 4, none⟩ (.slice am b.mails.length cm)).setCell ⟨w.heap.size, 5, none⟩ (.slice at1 b.tombs.length ct1)).setCell ⟨w.heap.size, 6, none⟩ (.int .i64 b.hor)) := ⟨_, rfl⟩
 have F9 := uh F
 rw [← hU] at F9
 have EU := hU.symm; clear F hU; have v0 := F9.obj.cell 0 rfl; have v1 := F9.obj.cell 1 rfl; have v2 := F9.obj.cell 2 rfl; have v3 := F9.obj.cell 3 rfl; have v4 := F9.obj.cell 4 rfl; have v5 := F9.obj.cell 5 rfl; have v6 := F9.obj.cell 6 rfl; have F := hide F9; clear F9
 go_wp2_with (refine bodyPost_ret (by simp [results, Tryz.results23, go_sem, v0, v1, v2, v3, v4, v5, v6]; try rfl) rfl ?_)
 clear EU; have F := uh F
 exact ⟨b, _, _, _, sS, how, (bits : Int), since, rfl, uh AN, ⟨F.row (by decide) (uh OB).1, F.row (by decide) (uh OB).2⟩, F.row (by decide) (g_based (uh RS) (by have q1_ := uh LBRS; omega)), hlS, F.below loR (uh BB)⟩
set_option maxHeartbeats 4000000 in
set_option maxRecDepth 100000 in
theorem DrawBoxNew_any (B len cap : Nat) (a : Option Addr) (w : World) (ha : Arg B w a len) (hB : B ≤ w.heap.size) :
  Calls Tryz.prog 27 #[.slice a len cap] w fun e w' => ∃ (n : ByteArray) (z : Int), e = .returned (.tuple #[.string n, .int .i64 z]) ∧ n.size ≤ 1048576 ∧ Below w.heap.size w w' := by
 have HA := hide (fun (W : World) (hb : Below B w W) => ha.below hb)
 clear ha; have BB := hide (Below.refl w.heap.size w); have q1 := hide (l01New_any B len cap a w (uh HA w ((uh BB).mono hB)) (Nat.le_trans hB (uh BB).size)); have nB := (uh BB).size
 go_enter Tryz.func27, Tryz.ntmps27
 go_wp2_with fail
 refine (uh q1).mono ?_
 rintro e w1 ⟨rfl, hc1, hg1⟩
 have hb := g_below hg1; have CU := hide hc1
 have szc : w.heap.size < w1.heap.size := hc1.lt.2
 clear q1 hg1 hc1; have sz1 := hide (hb.size); replace BB := hide (below_y (uh BB) hb); clear hb; go_wp2_with fail
 refine (flag_str [⟨#[105, 110, 98, 111, 120]⟩, ⟨#[97]⟩, ⟨#[]⟩, ⟨#[66]⟩] B w.heap.size _ (uh CU) (by decide) (by decide)).mono ?_
 rintro e w2 ⟨n, hn, rfl, hc, hg⟩
 have hn9 : n.size ≤ 1048576 := by simp only [List.mem_cons, List.not_mem_nil, or_false] at hn; rcases hn with rfl | rfl | rfl | rfl <;> decide
 clear hn; have sz2 := hide (hg.size)
 replace BB : Hid (Below w.heap.size w w2) := (uh BB).grown hg (uh BB).size (fun k hk => by have q1_ := Option.some.inj hk; omega)
 clear CU; have CU := hide hc; clear hg hc; go_wp2_with fail
 refine (pick_of [0, 1, 9999, 10000, 5] B w.heap.size _ (uh CU) (by decide) (by decide)).mono ?_
 rintro e w3 ⟨z, hz, rfl, hc, hg⟩
 clear hz; have sz3 := hide (hg.size)
 replace BB : Hid (Below w.heap.size w w3) := (uh BB).grown hg (uh BB).size (fun k hk => by have q1_ := Option.some.inj hk; omega)
 clear CU; have CU := hide hc; clear hg hc
 go_wp2
 go_ret2
 exact ⟨n, z, rfl, hn9, uh BB⟩
end Go.Proofs.YtlngjflhbkannaaGreat
